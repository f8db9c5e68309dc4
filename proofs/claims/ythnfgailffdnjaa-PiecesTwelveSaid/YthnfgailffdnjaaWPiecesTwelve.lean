/-
  The walk of PiecesTwelve.
-/
import Derived.Test.YthnfgailffdnjaaPcAwake
import Derived.Test.YthnfgailffdnjaaPcTwMath
import Derived.Deep.QuietTactic
import Derived.BigQuiet
import Derived.IntWalk
import Derived.WalkKit
import Derived.OpenShut
namespace Go.Proofs.Ythnfgailffdnjaa.piecesTwelve
open Go.RowKit
set_option linter.unusedVariables false
theorem pc_quiet {P : Program} {f : FuncId} {args : Array Value} {w : World} {n : Nat} {v : Value}
    (h : Calls P f args (w.drewN n) fun e w' => e = .returned v ∧ w.drewN n = w') : Calls P f args (w.drewN n) fun e w'' => e = .returned v ∧ ∃ m, w'' = w.drewN m :=
  h.mono fun _ _ ⟨he, hm⟩ => ⟨he, n, hm.symm⟩
theorem pc_drewN {B : Nat} {a w : World} (h : Below B a w) (n : Nat) : Below B a (w.drewN n) := h.trans ⟨rfl, rfl, rfl, Nat.le_refl _, fun _ _ => rfl⟩
theorem cut_one (s : ByteArray) (j : Nat) (w : World) (h : j < s.size) :
    (Instr.slice 9 (.string s) (some (.int .i64 (j : Int))) (some (.int .i64 ((j : Int) + 1))) none).run Try.prog w = .ok (.string (s.extract j (j + 1))) w := by
  rw [run_slice_string _ _ _ _ _ _ _ Try.underlying9 (by omega) (by omega) (by omega)]
  rw [show ((j : Int) + 1).toNat = j + 1 by omega]; rfl
/-- How far the count has come. -/
def Counted (f : Nat) (w : World) (n wh l i : Value) (wr : World) : Prop := ∃ k : Nat, k ≤ 256 ∧ i = .int .i64 (k : Int) ∧ n = .int .i64 (cntN f k : Nat) ∧ wh = .int .i64 (whtN f k : Nat) ∧ l = .string (ltsN f k) ∧ Below w.heap.size w wr
set_option maxRecDepth 100000 in
set_option maxHeartbeats 1000000 in
theorem twelve_any (f : Nat) (w : World) (hf : f < 256) :
    Calls Try.prog 7 #[.int .u8 (f : Int)] w fun e w' => e = .returned (.bool true) ∧ Below w.heap.size w w' := by
  go_enter Try.func7, Try.ntmps7
  go_wp2_with fail
  refine (pawake_any _).mono ?_; rintro e w' ⟨rfl, rfl⟩
  go_wp2
  go_loopw [3, 4, 5, 6] (fun n wh l i wr => Counted f w n wh l i wr) (fun _ _ _ i _ => 256 - (intOf i).toNat)
  case atStart => exact ⟨0, by omega, rfl, rfl, rfl, rfl, Below.refl _ _⟩
  case round =>
    obtain ⟨k, hk, rfl, rfl, rfl, rfl, hb⟩ := hrel
    have HB := Lib.hid hb
    clear hb
    by_cases hlt : k < 256
    · have hs := u8_sum f k
      have l0 : 0 ≤ ((stP f k : Nat) : Int) := by omega
      have l1 : ((stP f k : Nat) : Int) ≤ 255 := by have := stP_lt f k; omega
      have b1 := (cnt_le f k).1
      have b2 := (cnt_le f k).2
      cases hp : pcB ((stP f k : Nat) : Int)
      · have HC := Lib.hid (show cntN f (k + 1) = cntN f k by simp [cntN, hp])
        have HW := Lib.hid (show whtN f (k + 1) = whtN f k by simp [whtN, hp])
        have HL := Lib.hid (show ltsN f (k + 1) = ltsN f k by simp [ltsN, hp])
        go_wp2_with (go_at_call 12; refine (is_any _ _ l0 l1).mono ?_; rintro e w' ⟨rfl, rfl⟩)
        go_roundw
        case rel => exact ⟨k + 1, by omega, by go_num, by rw [HC.out], by rw [HW.out], by rw [HL.out], HB.out⟩
        case measure => simp [intOf]; omega
      · have HC := Lib.hid (show cntN f (k + 1) = cntN f k + 1 by simp [cntN, hp])
        have HL := Lib.hid (show ltsN f (k + 1) = ltsN f k ++ letZ ((stP f k : Nat) : Int) by simp [ltsN, hp])
        have b3 : (ltsN f k).size ≤ 256 := by rw [lts_size]; omega
        have b4 : ¬ (9223372036854775807 < (ltsN f k).size + (letZ ((stP f k : Nat) : Int)).size) := by have := (prs_letter hp).2; omega
        cases hw : (colZ ((stP f k : Nat) : Int) == 0)
        · have HW := Lib.hid (show whtN f (k + 1) = whtN f k by simp [whtN, hp, hw])
          go_wp2_with (first | (go_at_call 12; refine (is_any _ _ l0 l1).mono ?_; rintro e w' ⟨rfl, rfl⟩) | (go_at_call 14; refine (col_any _ _ l0 l1).mono ?_; rintro e w' ⟨rfl, rfl⟩))
          go_loopw [8] (fun x wx => ∃ j : Nat, j ≤ (ltsN f k).size ∧ x = .int .i64 (j : Int) ∧ Below w.heap.size w wx) (fun x _ => (ltsN f k).size - (intOf x).toNat)
          case atStart => exact ⟨0, by omega, rfl, HB.out⟩
          case round =>
            obtain ⟨j, hj, rfl, hb⟩ := hrel
            have HB' := Lib.hid hb
            clear hb
            by_cases hjl : j < (ltsN f k).size
            · have hcmp := lts_new f k j hlt hp hjl
              go_wp2
              have hw1 : IntKind.i64.wrap ((j : Int) + 1) = (j : Int) + 1 := IntWalk.i64_in _ (by omega)
              have hw2 : 0 ≤ (j : Int) + 1 := by omega
              have hw3 : ((j : Int) + 1).toNat = j + 1 := by omega
              have hw4 : ∀ n, _ := (fun n => cut_one (ltsN f k) j (World.drewN wr n) hjl)
              go_quiet ((go_at_call 21; exact pc_quiet (let_any _ _ l0 l1)))
              clear hw1 hw2 hw3 hw4
              go_wp2
              go_roundw
              case rel => exact ⟨j + 1, by omega, by go_num, pc_drewN HB'.out _⟩
              case measure => simp [intOf]; omega
            · obtain rfl : j = (ltsN f k).size := by omega
              go_wp2_with (go_at_call 21; refine (let_any _ _ l0 l1).mono ?_; rintro e w' ⟨rfl, rfl⟩)
              go_roundw
              case rel => exact ⟨k + 1, by omega, by go_num, by rw [HC.out]; go_num, by rw [HW.out], by rw [HL.out], HB'.out⟩
              case measure => simp [intOf]; omega
        · have HW := Lib.hid (show whtN f (k + 1) = whtN f k + 1 by simp [whtN, hp, hw])
          go_wp2_with (first | (go_at_call 12; refine (is_any _ _ l0 l1).mono ?_; rintro e w' ⟨rfl, rfl⟩) | (go_at_call 14; refine (col_any _ _ l0 l1).mono ?_; rintro e w' ⟨rfl, rfl⟩))
          go_loopw [8] (fun x wx => ∃ j : Nat, j ≤ (ltsN f k).size ∧ x = .int .i64 (j : Int) ∧ Below w.heap.size w wx) (fun x _ => (ltsN f k).size - (intOf x).toNat)
          case atStart => exact ⟨0, by omega, rfl, HB.out⟩
          case round =>
            obtain ⟨j, hj, rfl, hb⟩ := hrel
            have HB' := Lib.hid hb
            clear hb
            by_cases hjl : j < (ltsN f k).size
            · have hcmp := lts_new f k j hlt hp hjl
              go_wp2
              have hw1 : IntKind.i64.wrap ((j : Int) + 1) = (j : Int) + 1 := IntWalk.i64_in _ (by omega)
              have hw2 : 0 ≤ (j : Int) + 1 := by omega
              have hw3 : ((j : Int) + 1).toNat = j + 1 := by omega
              have hw4 : ∀ n, _ := (fun n => cut_one (ltsN f k) j (World.drewN wr n) hjl)
              go_quiet ((go_at_call 21; exact pc_quiet (let_any _ _ l0 l1)))
              clear hw1 hw2 hw3 hw4
              go_wp2
              go_roundw
              case rel => exact ⟨j + 1, by omega, by go_num, pc_drewN HB'.out _⟩
              case measure => simp [intOf]; omega
            · obtain rfl : j = (ltsN f k).size := by omega
              go_wp2_with (go_at_call 21; refine (let_any _ _ l0 l1).mono ?_; rintro e w' ⟨rfl, rfl⟩)
              go_roundw
              case rel => exact ⟨k + 1, by omega, by go_num, by rw [HC.out]; go_num, by rw [HW.out]; go_num, by rw [HL.out], HB'.out⟩
              case measure => simp [intOf]; omega
    · obtain rfl : k = 256 := by omega
      obtain ⟨e1, e2⟩ := cnt_end f hf
      have e3 := lts_size f 256
      rw [e1] at e3
      have q1 : ((cntN f 256 : Int) == 12) = true := by rw [e1]; rfl
      have q2 : ((whtN f 256 : Int) == 6) = true := by rw [e2]; rfl
      have q3 : (((ltsN f 256).size : Int) == 12) = true := by rw [e3]; rfl
      clear e1 e2 e3
      go_wp2
      go_ret
      exact ⟨rfl, HB.out⟩
theorem walk (a0 : Int) (w0 : (Lit.int .u8 a0).wf = true) (w : World) :
    Calls Try.prog 7 #[.int .u8 a0] w fun e w' => e = .returned (.bool true) ∧ Below w.heap.size w w' := by
  obtain ⟨n, hn, rfl⟩ := u8_of w0
  exact twelve_any n w hn
end Go.Proofs.Ythnfgailffdnjaa.piecesTwelve
