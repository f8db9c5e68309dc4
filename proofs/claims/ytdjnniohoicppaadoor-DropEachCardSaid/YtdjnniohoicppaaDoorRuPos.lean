/-
  Contracts of the program's first positions, first part: bare, square, man, chess, placed, rookFiles.
-/
import Derived.Test.YtdjnniohoicppaaDoorRu
namespace Go.Proofs.YtdjnniohoicppaaDoor
open Go.RowKit
set_option linter.unusedVariables false

/-- The position ahead of any piece, of a variant. -/
def bareP (v : Int) : Nat → Int := fun i => if i = 0 then v else if 79 ≤ i ∧ i ≤ 83 then -1 else if i = 87 then 1 else 0
theorem results_row {fn : Func} {i : Tmp} (h : fn.results = #[.cell i 31]) (tmps : Array Value) (w : World) (b : Nat) (p : Nat → Int) (hp : tmps.getD i undef = .pointer (some ⟨b, 0, none⟩)) (hr : Row w b p) :
    (results fn tmps).run Tryd.prog w = .ok (.agg (posA p)) w :=
  results_cell_row h tmps w b 31 (posA p) (0, 0) _ hp hr Tryd.underlying31 rfl (by rw [posA_size]; exact size31)
theorem size58 : (Tryd.prog.info? 67).map (·.size) = some 8 := by kernel_rfl
theorem zero58 : (Tryd.prog.info? 67).map (fun i => (i.zero, i.size)) = some (some (.agg (arrA 8 .u8 zeroP)), 8) := by kernel_rfl
theorem results_arr {fn : Func} {i : Tmp} (h : fn.results = #[.cell i 67]) (tmps : Array Value) (w : World) (b : Nat) (p : Nat → Int) (hp : tmps.getD i undef = .pointer (some ⟨b, 0, none⟩)) (hr : Blk w b 67 (arrA 8 .u8 p)) :
    (results fn tmps).run Tryd.prog w = .ok (.agg (arrA 8 .u8 p)) w :=
  results_blk h tmps w b _ hp hr Tryd.underlying67 rfl size58 (arrA_size _ _ _)

set_option maxRecDepth 100000 in
theorem bare_any (v : Int) (w : World) : Calls Tryd.prog 44 #[.int .u8 v] w (PosL (bareP v) w) := by
  go_enter Tryd.func44, Tryd.ntmps44
  go_wp2_with (first
    | (refine step_alloc rfl rfl ?_; intro b1 w1 N R; have HG := Lib.hid (Nat.le_of_eq N.at_.symm); have HR := Lib.hid R; have HB := Lib.hid N.below; clear N R)
    | (refine step_build rfl 31 _ rfl (posA (bareP v)) (by kernel_rfl) ?_)
    | (refine step_store rfl _ _ rfl b1 rfl _ (bareP v) rfl HR.out ?_; intro w2 U R; have HR := Lib.hid R; have HB := Lib.hid (HB.out.trans (U.below HG.out)); clear U R))
  refine bodyPost_ret (v := .agg (posA (bareP v))) (results_row rfl _ _ _ _ rfl HR.out) rfl ⟨rfl, HB.out⟩
def IntE (n : Int) (w : World) (e : Ending) (w' : World) : Prop := e = .returned (.int .i64 n) ∧ w = w'
def U8E (n : Int) (w : World) (e : Ending) (w' : World) : Prop := e = .returned (.int .u8 n) ∧ w = w'
theorem square_any (f r : Nat) (w : World) (hf : f < 8) (hr : r < 8) : Calls Tryd.prog 45 #[.int .i64 (f : Int), .int .i64 (r : Int)] w (IntE ((8 * r + f : Nat) : Int) w) := by
  go_enter Tryd.func45, Tryd.ntmps45
  go_wp2_with fail
  go_ret
  exact ⟨by go_num, rfl⟩
theorem man_any (c k : Nat) (w : World) (hc : c ≤ 1) (hk : k ≤ 15) : Calls Tryd.prog 46 #[.int .u8 (c : Int), .int .u8 (k : Int)] w (U8E ((8 * c + k : Nat) : Int) w) := by
  go_enter Tryd.func46, Tryd.ntmps46
  go_wp2_with fail
  go_ret
  exact ⟨by go_num, rfl⟩
/-- The row of chess. -/
def chR : Nat → Int := fun i => (([4, 2, 3, 5, 6, 3, 2, 4].getD i 0 : Nat) : Int)
def RowL (r : Nat → Int) (w : World) (e : Ending) (w' : World) : Prop := e = .returned (.agg (arrA 8 .u8 r)) ∧ Below w.heap.size w w'
theorem chess_any (w : World) : Calls Tryd.prog 36 #[] w (RowL chR w) := by
  go_enter Tryd.func36, Tryd.ntmps36
  go_wp2_with (first
    | (refine arr_alloc rfl 67 rfl 8 .u8 zero58 ?_; intro b1 w1 N R; have HG := Lib.hid (Nat.le_of_eq N.at_.symm); have HR := Lib.hid R; have HB := Lib.hid N.below; clear N R)
    | (refine step_build rfl 67 _ rfl (arrA 8 .u8 chR) (by kernel_rfl) ?_)
    | (refine arr_store rfl 67 _ _ rfl b1 rfl 8 .u8 _ chR rfl HR.out size58 ?_; intro w2 U R; have HR := Lib.hid R; have HB := Lib.hid (HB.out.trans (U.below HG.out)); clear U R))
  refine bodyPost_ret (v := .agg (arrA 8 .u8 chR)) (results_arr rfl _ _ _ _ rfl HR.out) rfl ⟨rfl, HB.out⟩
end Go.Proofs.YtdjnniohoicppaaDoor
