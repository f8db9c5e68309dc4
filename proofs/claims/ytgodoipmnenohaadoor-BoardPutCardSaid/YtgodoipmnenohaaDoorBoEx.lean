/-
  Contracts of the program's flipped, and of exchanged at its three types.
-/
import Derived.Test.YtgodoipmnenohaaDoorUp
namespace Go.Proofs.YtgodoipmnenohaaDoor
open Go.RowKit
set_option linter.unusedVariables false

theorem flip_one : ∀ n : Fin 64, firstN (flipN (putN 0 (n.val : Int))) = flipS (n.val : Int) := by decide +kernel
theorem flipped_any (n : Nat) (w : World) (hn : n < 64) (hD : TabDb w) : Calls Tryd.prog 43 #[.int .i64 (n : Int)] w fun e w' => e = .returned (.int .i64 (flipS (n : Int))) ∧ w = w' := by
  have HD := Lib.hid hD
  have HF := Lib.hid (flip_one ⟨n, hn⟩)
  clear hD
  have H0 := Lib.hid (show (0 : Nat) < W64 by decide)
  go_enter Tryd.func43, Tryd.ntmps43
  go_wp2_with fail
  refine (put_any 0 _ _ H0.out).mono ?_; rintro e w1 ⟨rfl, rfl⟩
  go_wp2_with fail
  refine (flip_any _ _ (putN_lt H0.out _)).mono ?_; rintro e w1 ⟨rfl, rfl⟩
  go_wp2_with fail
  refine (first_any _ _ (flipN_lt _) HD.out).mono ?_; rintro e w1 ⟨rfl, rfl⟩
  go_wp2_with fail
  go_ret
  exact ⟨ret_int HF.out, rfl⟩
def AggL (c : Array Value) (w : World) (e : Ending) (w' : World) : Prop := e = .returned (.agg c) ∧ Below w.heap.size w w'
set_option maxRecDepth 100000 in
set_option maxHeartbeats 1000000 in
theorem ex2_any (a0 a1 : Int) (w : World) : Calls Tryd.prog 46 #[.agg #[.int .u8 a0, .int .u8 a1]] w (AggL #[.int .u8 a1, .int .u8 a0] w) := by
  go_enter Tryd.func46, Tryd.ntmps46
  go_wp2
  refine bodyPost_ret (v := .agg #[.int .u8 a1, .int .u8 a0]) (by simp [results, Tryd.results46, go_sem]) rfl ⟨rfl, ?_⟩
  repeat (first | exact box_below _ _ | refine Below.setCell ?_ (by simp) _ | refine Below.alloc ?_ (by simp) _)
set_option maxRecDepth 100000 in
set_option maxHeartbeats 1000000 in
theorem ex4_any (a0 a1 a2 a3 : Int) (w : World) : Calls Tryd.prog 45 #[.agg #[.int .i8 a0, .int .i8 a1, .int .i8 a2, .int .i8 a3]] w (AggL #[.int .i8 a2, .int .i8 a3, .int .i8 a0, .int .i8 a1] w) := by
  go_enter Tryd.func45, Tryd.ntmps45
  go_wp2
  refine bodyPost_ret (v := .agg #[.int .i8 a2, .int .i8 a3, .int .i8 a0, .int .i8 a1]) (by simp [results, Tryd.results45, go_sem]) rfl ⟨rfl, ?_⟩
  repeat (first | exact box_below _ _ | refine Below.setCell ?_ (by simp) _ | refine Below.alloc ?_ (by simp) _)
set_option maxRecDepth 100000 in
set_option maxHeartbeats 1000000 in
theorem ex12_any (a0 a1 a2 a3 a4 a5 a6 a7 a8 a9 a10 a11 : Int) (w : World) : Calls Tryd.prog 44 #[.agg #[.int .u8 a0, .int .u8 a1, .int .u8 a2, .int .u8 a3, .int .u8 a4, .int .u8 a5, .int .u8 a6, .int .u8 a7, .int .u8 a8, .int .u8 a9, .int .u8 a10, .int .u8 a11]] w (AggL #[.int .u8 a6, .int .u8 a7, .int .u8 a8, .int .u8 a9, .int .u8 a10, .int .u8 a11, .int .u8 a0, .int .u8 a1, .int .u8 a2, .int .u8 a3, .int .u8 a4, .int .u8 a5] w) := by
  go_enter Tryd.func44, Tryd.ntmps44
  go_wp2
  refine bodyPost_ret (v := .agg #[.int .u8 a6, .int .u8 a7, .int .u8 a8, .int .u8 a9, .int .u8 a10, .int .u8 a11, .int .u8 a0, .int .u8 a1, .int .u8 a2, .int .u8 a3, .int .u8 a4, .int .u8 a5]) (by simp [results, Tryd.results44, go_sem]) rfl ⟨rfl, ?_⟩
  repeat (first | exact box_below _ _ | refine Below.setCell ?_ (by simp) _ | refine Below.alloc ?_ (by simp) _)
end Go.Proofs.YtgodoipmnenohaaDoor
