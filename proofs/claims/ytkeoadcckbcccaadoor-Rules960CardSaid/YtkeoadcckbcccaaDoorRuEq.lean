/-
  That the program's first positions and the document's are the same; that their numbers fit their kinds.
-/
import Derived.Test.YtkeoadcckbcccaaDoorRuStart
import Derived.Test.YtkeoadcckbcccaaDoorRuRefStart
import Derived.Test.YtkeoadcckbcccaaDoorPosEq
namespace Go.Proofs.YtkeoadcckbcccaaDoor
open Go.RowKit
set_option linter.unusedVariables false
/-- Two home ranks, the pawns ahead of them, rooks that castle, from the two colors' pieces. -/
def linG (v : Int) (up lo : Nat → Int) (a b : Int) : Nat → Int := fun i =>
  if i = 0 then v else if i ≤ 8 then up (i - 1) else if i ≤ 16 then 1 else if i ≤ 48 then 0 else if i ≤ 56 then 9 else if i ≤ 64 then lo (i - 57)
  else if i = 79 ∨ i = 81 then a else if i = 80 ∨ i = 82 then b else if i = 83 then -1 else if i = 87 then 1 else 0
def upR (r : Nat → Int) : Nat → Int := fun j => 8 * ((0 : Nat) : Int) + r j
def loR (r : Nat → Int) : Nat → Int := fun j => 8 * ((1 : Nat) : Int) + r j
def bv (x : Int) : Nat := (UInt8.ofNat x.toNat).toNat
def upS (q : Nat → Int) : Nat → Int := fun j => ((letN (bv (q j)) : Nat) : Int)
theorem both_lin0 (r : Nat → Int) : bothP 1 r 0 = linG 1 (upR r) (loR r) (rf0 r 8) (rf1 r 8) 0 := by kernel_rfl
theorem both_lin1 (r : Nat → Int) : bothP 1 r 1 = linG 1 (upR r) (loR r) (rf0 r 8) (rf1 r 8) 1 := by kernel_rfl
theorem both_lin2 (r : Nat → Int) : bothP 1 r 2 = linG 1 (upR r) (loR r) (rf0 r 8) (rf1 r 8) 2 := by kernel_rfl
theorem both_lin3 (r : Nat → Int) : bothP 1 r 3 = linG 1 (upR r) (loR r) (rf0 r 8) (rf1 r 8) 3 := by kernel_rfl
theorem both_lin4 (r : Nat → Int) : bothP 1 r 4 = linG 1 (upR r) (loR r) (rf0 r 8) (rf1 r 8) 4 := by kernel_rfl
theorem both_lin5 (r : Nat → Int) : bothP 1 r 5 = linG 1 (upR r) (loR r) (rf0 r 8) (rf1 r 8) 5 := by kernel_rfl
theorem both_lin6 (r : Nat → Int) : bothP 1 r 6 = linG 1 (upR r) (loR r) (rf0 r 8) (rf1 r 8) 6 := by kernel_rfl
theorem both_lin7 (r : Nat → Int) : bothP 1 r 7 = linG 1 (upR r) (loR r) (rf0 r 8) (rf1 r 8) 7 := by kernel_rfl
theorem both_lin8 (r : Nat → Int) : bothP 1 r 8 = linG 1 (upR r) (loR r) (rf0 r 8) (rf1 r 8) 8 := by kernel_rfl
theorem both_lin9 (r : Nat → Int) : bothP 1 r 9 = linG 1 (upR r) (loR r) (rf0 r 8) (rf1 r 8) 9 := by kernel_rfl
theorem both_lin10 (r : Nat → Int) : bothP 1 r 10 = linG 1 (upR r) (loR r) (rf0 r 8) (rf1 r 8) 10 := by kernel_rfl
theorem both_lin11 (r : Nat → Int) : bothP 1 r 11 = linG 1 (upR r) (loR r) (rf0 r 8) (rf1 r 8) 11 := by kernel_rfl
theorem both_lin12 (r : Nat → Int) : bothP 1 r 12 = linG 1 (upR r) (loR r) (rf0 r 8) (rf1 r 8) 12 := by kernel_rfl
theorem both_lin13 (r : Nat → Int) : bothP 1 r 13 = linG 1 (upR r) (loR r) (rf0 r 8) (rf1 r 8) 13 := by kernel_rfl
theorem both_lin14 (r : Nat → Int) : bothP 1 r 14 = linG 1 (upR r) (loR r) (rf0 r 8) (rf1 r 8) 14 := by kernel_rfl
theorem both_lin15 (r : Nat → Int) : bothP 1 r 15 = linG 1 (upR r) (loR r) (rf0 r 8) (rf1 r 8) 15 := by kernel_rfl
theorem both_lin16 (r : Nat → Int) : bothP 1 r 16 = linG 1 (upR r) (loR r) (rf0 r 8) (rf1 r 8) 16 := by kernel_rfl
theorem both_lin17 (r : Nat → Int) : bothP 1 r 17 = linG 1 (upR r) (loR r) (rf0 r 8) (rf1 r 8) 17 := by kernel_rfl
theorem both_lin18 (r : Nat → Int) : bothP 1 r 18 = linG 1 (upR r) (loR r) (rf0 r 8) (rf1 r 8) 18 := by kernel_rfl
theorem both_lin19 (r : Nat → Int) : bothP 1 r 19 = linG 1 (upR r) (loR r) (rf0 r 8) (rf1 r 8) 19 := by kernel_rfl
theorem both_lin20 (r : Nat → Int) : bothP 1 r 20 = linG 1 (upR r) (loR r) (rf0 r 8) (rf1 r 8) 20 := by kernel_rfl
theorem both_lin21 (r : Nat → Int) : bothP 1 r 21 = linG 1 (upR r) (loR r) (rf0 r 8) (rf1 r 8) 21 := by kernel_rfl
theorem both_lin22 (r : Nat → Int) : bothP 1 r 22 = linG 1 (upR r) (loR r) (rf0 r 8) (rf1 r 8) 22 := by kernel_rfl
theorem both_lin23 (r : Nat → Int) : bothP 1 r 23 = linG 1 (upR r) (loR r) (rf0 r 8) (rf1 r 8) 23 := by kernel_rfl
theorem both_lin24 (r : Nat → Int) : bothP 1 r 24 = linG 1 (upR r) (loR r) (rf0 r 8) (rf1 r 8) 24 := by kernel_rfl
theorem both_lin25 (r : Nat → Int) : bothP 1 r 25 = linG 1 (upR r) (loR r) (rf0 r 8) (rf1 r 8) 25 := by kernel_rfl
theorem both_lin26 (r : Nat → Int) : bothP 1 r 26 = linG 1 (upR r) (loR r) (rf0 r 8) (rf1 r 8) 26 := by kernel_rfl
theorem both_lin27 (r : Nat → Int) : bothP 1 r 27 = linG 1 (upR r) (loR r) (rf0 r 8) (rf1 r 8) 27 := by kernel_rfl
theorem both_lin28 (r : Nat → Int) : bothP 1 r 28 = linG 1 (upR r) (loR r) (rf0 r 8) (rf1 r 8) 28 := by kernel_rfl
theorem both_lin29 (r : Nat → Int) : bothP 1 r 29 = linG 1 (upR r) (loR r) (rf0 r 8) (rf1 r 8) 29 := by kernel_rfl
theorem both_lin30 (r : Nat → Int) : bothP 1 r 30 = linG 1 (upR r) (loR r) (rf0 r 8) (rf1 r 8) 30 := by kernel_rfl
theorem both_lin31 (r : Nat → Int) : bothP 1 r 31 = linG 1 (upR r) (loR r) (rf0 r 8) (rf1 r 8) 31 := by kernel_rfl
theorem both_lin32 (r : Nat → Int) : bothP 1 r 32 = linG 1 (upR r) (loR r) (rf0 r 8) (rf1 r 8) 32 := by kernel_rfl
theorem both_lin33 (r : Nat → Int) : bothP 1 r 33 = linG 1 (upR r) (loR r) (rf0 r 8) (rf1 r 8) 33 := by kernel_rfl
theorem both_lin34 (r : Nat → Int) : bothP 1 r 34 = linG 1 (upR r) (loR r) (rf0 r 8) (rf1 r 8) 34 := by kernel_rfl
theorem both_lin35 (r : Nat → Int) : bothP 1 r 35 = linG 1 (upR r) (loR r) (rf0 r 8) (rf1 r 8) 35 := by kernel_rfl
theorem both_lin36 (r : Nat → Int) : bothP 1 r 36 = linG 1 (upR r) (loR r) (rf0 r 8) (rf1 r 8) 36 := by kernel_rfl
theorem both_lin37 (r : Nat → Int) : bothP 1 r 37 = linG 1 (upR r) (loR r) (rf0 r 8) (rf1 r 8) 37 := by kernel_rfl
theorem both_lin38 (r : Nat → Int) : bothP 1 r 38 = linG 1 (upR r) (loR r) (rf0 r 8) (rf1 r 8) 38 := by kernel_rfl
theorem both_lin39 (r : Nat → Int) : bothP 1 r 39 = linG 1 (upR r) (loR r) (rf0 r 8) (rf1 r 8) 39 := by kernel_rfl
theorem both_lin40 (r : Nat → Int) : bothP 1 r 40 = linG 1 (upR r) (loR r) (rf0 r 8) (rf1 r 8) 40 := by kernel_rfl
theorem both_lin41 (r : Nat → Int) : bothP 1 r 41 = linG 1 (upR r) (loR r) (rf0 r 8) (rf1 r 8) 41 := by kernel_rfl
theorem both_lin42 (r : Nat → Int) : bothP 1 r 42 = linG 1 (upR r) (loR r) (rf0 r 8) (rf1 r 8) 42 := by kernel_rfl
theorem both_lin43 (r : Nat → Int) : bothP 1 r 43 = linG 1 (upR r) (loR r) (rf0 r 8) (rf1 r 8) 43 := by kernel_rfl
theorem both_lin44 (r : Nat → Int) : bothP 1 r 44 = linG 1 (upR r) (loR r) (rf0 r 8) (rf1 r 8) 44 := by kernel_rfl
theorem both_lin45 (r : Nat → Int) : bothP 1 r 45 = linG 1 (upR r) (loR r) (rf0 r 8) (rf1 r 8) 45 := by kernel_rfl
theorem both_lin46 (r : Nat → Int) : bothP 1 r 46 = linG 1 (upR r) (loR r) (rf0 r 8) (rf1 r 8) 46 := by kernel_rfl
theorem both_lin47 (r : Nat → Int) : bothP 1 r 47 = linG 1 (upR r) (loR r) (rf0 r 8) (rf1 r 8) 47 := by kernel_rfl
theorem both_lin48 (r : Nat → Int) : bothP 1 r 48 = linG 1 (upR r) (loR r) (rf0 r 8) (rf1 r 8) 48 := by kernel_rfl
theorem both_lin49 (r : Nat → Int) : bothP 1 r 49 = linG 1 (upR r) (loR r) (rf0 r 8) (rf1 r 8) 49 := by kernel_rfl
theorem both_lin50 (r : Nat → Int) : bothP 1 r 50 = linG 1 (upR r) (loR r) (rf0 r 8) (rf1 r 8) 50 := by kernel_rfl
theorem both_lin51 (r : Nat → Int) : bothP 1 r 51 = linG 1 (upR r) (loR r) (rf0 r 8) (rf1 r 8) 51 := by kernel_rfl
theorem both_lin52 (r : Nat → Int) : bothP 1 r 52 = linG 1 (upR r) (loR r) (rf0 r 8) (rf1 r 8) 52 := by kernel_rfl
theorem both_lin53 (r : Nat → Int) : bothP 1 r 53 = linG 1 (upR r) (loR r) (rf0 r 8) (rf1 r 8) 53 := by kernel_rfl
theorem both_lin54 (r : Nat → Int) : bothP 1 r 54 = linG 1 (upR r) (loR r) (rf0 r 8) (rf1 r 8) 54 := by kernel_rfl
theorem both_lin55 (r : Nat → Int) : bothP 1 r 55 = linG 1 (upR r) (loR r) (rf0 r 8) (rf1 r 8) 55 := by kernel_rfl
theorem both_lin56 (r : Nat → Int) : bothP 1 r 56 = linG 1 (upR r) (loR r) (rf0 r 8) (rf1 r 8) 56 := by kernel_rfl
theorem both_lin57 (r : Nat → Int) : bothP 1 r 57 = linG 1 (upR r) (loR r) (rf0 r 8) (rf1 r 8) 57 := by kernel_rfl
theorem both_lin58 (r : Nat → Int) : bothP 1 r 58 = linG 1 (upR r) (loR r) (rf0 r 8) (rf1 r 8) 58 := by kernel_rfl
theorem both_lin59 (r : Nat → Int) : bothP 1 r 59 = linG 1 (upR r) (loR r) (rf0 r 8) (rf1 r 8) 59 := by kernel_rfl
theorem both_lin60 (r : Nat → Int) : bothP 1 r 60 = linG 1 (upR r) (loR r) (rf0 r 8) (rf1 r 8) 60 := by kernel_rfl
theorem both_lin61 (r : Nat → Int) : bothP 1 r 61 = linG 1 (upR r) (loR r) (rf0 r 8) (rf1 r 8) 61 := by kernel_rfl
theorem both_lin62 (r : Nat → Int) : bothP 1 r 62 = linG 1 (upR r) (loR r) (rf0 r 8) (rf1 r 8) 62 := by kernel_rfl
theorem both_lin63 (r : Nat → Int) : bothP 1 r 63 = linG 1 (upR r) (loR r) (rf0 r 8) (rf1 r 8) 63 := by kernel_rfl
theorem both_lin64 (r : Nat → Int) : bothP 1 r 64 = linG 1 (upR r) (loR r) (rf0 r 8) (rf1 r 8) 64 := by kernel_rfl
theorem both_lin65 (r : Nat → Int) : bothP 1 r 65 = linG 1 (upR r) (loR r) (rf0 r 8) (rf1 r 8) 65 := by kernel_rfl
theorem both_lin66 (r : Nat → Int) : bothP 1 r 66 = linG 1 (upR r) (loR r) (rf0 r 8) (rf1 r 8) 66 := by kernel_rfl
theorem both_lin67 (r : Nat → Int) : bothP 1 r 67 = linG 1 (upR r) (loR r) (rf0 r 8) (rf1 r 8) 67 := by kernel_rfl
theorem both_lin68 (r : Nat → Int) : bothP 1 r 68 = linG 1 (upR r) (loR r) (rf0 r 8) (rf1 r 8) 68 := by kernel_rfl
theorem both_lin69 (r : Nat → Int) : bothP 1 r 69 = linG 1 (upR r) (loR r) (rf0 r 8) (rf1 r 8) 69 := by kernel_rfl
theorem both_lin70 (r : Nat → Int) : bothP 1 r 70 = linG 1 (upR r) (loR r) (rf0 r 8) (rf1 r 8) 70 := by kernel_rfl
theorem both_lin71 (r : Nat → Int) : bothP 1 r 71 = linG 1 (upR r) (loR r) (rf0 r 8) (rf1 r 8) 71 := by kernel_rfl
theorem both_lin72 (r : Nat → Int) : bothP 1 r 72 = linG 1 (upR r) (loR r) (rf0 r 8) (rf1 r 8) 72 := by kernel_rfl
theorem both_lin73 (r : Nat → Int) : bothP 1 r 73 = linG 1 (upR r) (loR r) (rf0 r 8) (rf1 r 8) 73 := by kernel_rfl
theorem both_lin74 (r : Nat → Int) : bothP 1 r 74 = linG 1 (upR r) (loR r) (rf0 r 8) (rf1 r 8) 74 := by kernel_rfl
theorem both_lin75 (r : Nat → Int) : bothP 1 r 75 = linG 1 (upR r) (loR r) (rf0 r 8) (rf1 r 8) 75 := by kernel_rfl
theorem both_lin76 (r : Nat → Int) : bothP 1 r 76 = linG 1 (upR r) (loR r) (rf0 r 8) (rf1 r 8) 76 := by kernel_rfl
theorem both_lin77 (r : Nat → Int) : bothP 1 r 77 = linG 1 (upR r) (loR r) (rf0 r 8) (rf1 r 8) 77 := by kernel_rfl
theorem both_lin78 (r : Nat → Int) : bothP 1 r 78 = linG 1 (upR r) (loR r) (rf0 r 8) (rf1 r 8) 78 := by kernel_rfl
theorem both_lin79 (r : Nat → Int) : bothP 1 r 79 = linG 1 (upR r) (loR r) (rf0 r 8) (rf1 r 8) 79 := by kernel_rfl
theorem both_lin80 (r : Nat → Int) : bothP 1 r 80 = linG 1 (upR r) (loR r) (rf0 r 8) (rf1 r 8) 80 := by kernel_rfl
theorem both_lin81 (r : Nat → Int) : bothP 1 r 81 = linG 1 (upR r) (loR r) (rf0 r 8) (rf1 r 8) 81 := by kernel_rfl
theorem both_lin82 (r : Nat → Int) : bothP 1 r 82 = linG 1 (upR r) (loR r) (rf0 r 8) (rf1 r 8) 82 := by kernel_rfl
theorem both_lin83 (r : Nat → Int) : bothP 1 r 83 = linG 1 (upR r) (loR r) (rf0 r 8) (rf1 r 8) 83 := by kernel_rfl
theorem both_lin84 (r : Nat → Int) : bothP 1 r 84 = linG 1 (upR r) (loR r) (rf0 r 8) (rf1 r 8) 84 := by kernel_rfl
theorem both_lin85 (r : Nat → Int) : bothP 1 r 85 = linG 1 (upR r) (loR r) (rf0 r 8) (rf1 r 8) 85 := by kernel_rfl
theorem both_lin86 (r : Nat → Int) : bothP 1 r 86 = linG 1 (upR r) (loR r) (rf0 r 8) (rf1 r 8) 86 := by kernel_rfl
theorem both_lin87 (r : Nat → Int) : bothP 1 r 87 = linG 1 (upR r) (loR r) (rf0 r 8) (rf1 r 8) 87 := by kernel_rfl
theorem both_lin (r : Nat → Int) : ∀ i, i < 88 → bothP 1 r i = linG 1 (upR r) (loR r) (rf0 r 8) (rf1 r 8) i := fun i hi => by
  match i, hi with
  | 0, _ => exact both_lin0 r
  | 1, _ => exact both_lin1 r
  | 2, _ => exact both_lin2 r
  | 3, _ => exact both_lin3 r
  | 4, _ => exact both_lin4 r
  | 5, _ => exact both_lin5 r
  | 6, _ => exact both_lin6 r
  | 7, _ => exact both_lin7 r
  | 8, _ => exact both_lin8 r
  | 9, _ => exact both_lin9 r
  | 10, _ => exact both_lin10 r
  | 11, _ => exact both_lin11 r
  | 12, _ => exact both_lin12 r
  | 13, _ => exact both_lin13 r
  | 14, _ => exact both_lin14 r
  | 15, _ => exact both_lin15 r
  | 16, _ => exact both_lin16 r
  | 17, _ => exact both_lin17 r
  | 18, _ => exact both_lin18 r
  | 19, _ => exact both_lin19 r
  | 20, _ => exact both_lin20 r
  | 21, _ => exact both_lin21 r
  | 22, _ => exact both_lin22 r
  | 23, _ => exact both_lin23 r
  | 24, _ => exact both_lin24 r
  | 25, _ => exact both_lin25 r
  | 26, _ => exact both_lin26 r
  | 27, _ => exact both_lin27 r
  | 28, _ => exact both_lin28 r
  | 29, _ => exact both_lin29 r
  | 30, _ => exact both_lin30 r
  | 31, _ => exact both_lin31 r
  | 32, _ => exact both_lin32 r
  | 33, _ => exact both_lin33 r
  | 34, _ => exact both_lin34 r
  | 35, _ => exact both_lin35 r
  | 36, _ => exact both_lin36 r
  | 37, _ => exact both_lin37 r
  | 38, _ => exact both_lin38 r
  | 39, _ => exact both_lin39 r
  | 40, _ => exact both_lin40 r
  | 41, _ => exact both_lin41 r
  | 42, _ => exact both_lin42 r
  | 43, _ => exact both_lin43 r
  | 44, _ => exact both_lin44 r
  | 45, _ => exact both_lin45 r
  | 46, _ => exact both_lin46 r
  | 47, _ => exact both_lin47 r
  | 48, _ => exact both_lin48 r
  | 49, _ => exact both_lin49 r
  | 50, _ => exact both_lin50 r
  | 51, _ => exact both_lin51 r
  | 52, _ => exact both_lin52 r
  | 53, _ => exact both_lin53 r
  | 54, _ => exact both_lin54 r
  | 55, _ => exact both_lin55 r
  | 56, _ => exact both_lin56 r
  | 57, _ => exact both_lin57 r
  | 58, _ => exact both_lin58 r
  | 59, _ => exact both_lin59 r
  | 60, _ => exact both_lin60 r
  | 61, _ => exact both_lin61 r
  | 62, _ => exact both_lin62 r
  | 63, _ => exact both_lin63 r
  | 64, _ => exact both_lin64 r
  | 65, _ => exact both_lin65 r
  | 66, _ => exact both_lin66 r
  | 67, _ => exact both_lin67 r
  | 68, _ => exact both_lin68 r
  | 69, _ => exact both_lin69 r
  | 70, _ => exact both_lin70 r
  | 71, _ => exact both_lin71 r
  | 72, _ => exact both_lin72 r
  | 73, _ => exact both_lin73 r
  | 74, _ => exact both_lin74 r
  | 75, _ => exact both_lin75 r
  | 76, _ => exact both_lin76 r
  | 77, _ => exact both_lin77 r
  | 78, _ => exact both_lin78 r
  | 79, _ => exact both_lin79 r
  | 80, _ => exact both_lin80 r
  | 81, _ => exact both_lin81 r
  | 82, _ => exact both_lin82 r
  | 83, _ => exact both_lin83 r
  | 84, _ => exact both_lin84 r
  | 85, _ => exact both_lin85 r
  | 86, _ => exact both_lin86 r
  | 87, _ => exact both_lin87 r
  | n + 88, h => exact absurd h (by omega)
theorem of_lin0 (s q : Nat → Int) (a b : Int) : rookP (rookP (ofP 1 (rowsL (stR s) (stR q))) 79 a b) 81 a b 0 = linG 1 (upS q) (upS s) a b 0 := by kernel_rfl
theorem of_lin1 (s q : Nat → Int) (a b : Int) : rookP (rookP (ofP 1 (rowsL (stR s) (stR q))) 79 a b) 81 a b 1 = linG 1 (upS q) (upS s) a b 1 := by kernel_rfl
theorem of_lin2 (s q : Nat → Int) (a b : Int) : rookP (rookP (ofP 1 (rowsL (stR s) (stR q))) 79 a b) 81 a b 2 = linG 1 (upS q) (upS s) a b 2 := by kernel_rfl
theorem of_lin3 (s q : Nat → Int) (a b : Int) : rookP (rookP (ofP 1 (rowsL (stR s) (stR q))) 79 a b) 81 a b 3 = linG 1 (upS q) (upS s) a b 3 := by kernel_rfl
theorem of_lin4 (s q : Nat → Int) (a b : Int) : rookP (rookP (ofP 1 (rowsL (stR s) (stR q))) 79 a b) 81 a b 4 = linG 1 (upS q) (upS s) a b 4 := by kernel_rfl
theorem of_lin5 (s q : Nat → Int) (a b : Int) : rookP (rookP (ofP 1 (rowsL (stR s) (stR q))) 79 a b) 81 a b 5 = linG 1 (upS q) (upS s) a b 5 := by kernel_rfl
theorem of_lin6 (s q : Nat → Int) (a b : Int) : rookP (rookP (ofP 1 (rowsL (stR s) (stR q))) 79 a b) 81 a b 6 = linG 1 (upS q) (upS s) a b 6 := by kernel_rfl
theorem of_lin7 (s q : Nat → Int) (a b : Int) : rookP (rookP (ofP 1 (rowsL (stR s) (stR q))) 79 a b) 81 a b 7 = linG 1 (upS q) (upS s) a b 7 := by kernel_rfl
theorem of_lin8 (s q : Nat → Int) (a b : Int) : rookP (rookP (ofP 1 (rowsL (stR s) (stR q))) 79 a b) 81 a b 8 = linG 1 (upS q) (upS s) a b 8 := by kernel_rfl
theorem of_lin9 (s q : Nat → Int) (a b : Int) : rookP (rookP (ofP 1 (rowsL (stR s) (stR q))) 79 a b) 81 a b 9 = linG 1 (upS q) (upS s) a b 9 := by kernel_rfl
theorem of_lin10 (s q : Nat → Int) (a b : Int) : rookP (rookP (ofP 1 (rowsL (stR s) (stR q))) 79 a b) 81 a b 10 = linG 1 (upS q) (upS s) a b 10 := by kernel_rfl
theorem of_lin11 (s q : Nat → Int) (a b : Int) : rookP (rookP (ofP 1 (rowsL (stR s) (stR q))) 79 a b) 81 a b 11 = linG 1 (upS q) (upS s) a b 11 := by kernel_rfl
theorem of_lin12 (s q : Nat → Int) (a b : Int) : rookP (rookP (ofP 1 (rowsL (stR s) (stR q))) 79 a b) 81 a b 12 = linG 1 (upS q) (upS s) a b 12 := by kernel_rfl
theorem of_lin13 (s q : Nat → Int) (a b : Int) : rookP (rookP (ofP 1 (rowsL (stR s) (stR q))) 79 a b) 81 a b 13 = linG 1 (upS q) (upS s) a b 13 := by kernel_rfl
theorem of_lin14 (s q : Nat → Int) (a b : Int) : rookP (rookP (ofP 1 (rowsL (stR s) (stR q))) 79 a b) 81 a b 14 = linG 1 (upS q) (upS s) a b 14 := by kernel_rfl
theorem of_lin15 (s q : Nat → Int) (a b : Int) : rookP (rookP (ofP 1 (rowsL (stR s) (stR q))) 79 a b) 81 a b 15 = linG 1 (upS q) (upS s) a b 15 := by kernel_rfl
theorem of_lin16 (s q : Nat → Int) (a b : Int) : rookP (rookP (ofP 1 (rowsL (stR s) (stR q))) 79 a b) 81 a b 16 = linG 1 (upS q) (upS s) a b 16 := by kernel_rfl
theorem of_lin17 (s q : Nat → Int) (a b : Int) : rookP (rookP (ofP 1 (rowsL (stR s) (stR q))) 79 a b) 81 a b 17 = linG 1 (upS q) (upS s) a b 17 := by kernel_rfl
theorem of_lin18 (s q : Nat → Int) (a b : Int) : rookP (rookP (ofP 1 (rowsL (stR s) (stR q))) 79 a b) 81 a b 18 = linG 1 (upS q) (upS s) a b 18 := by kernel_rfl
theorem of_lin19 (s q : Nat → Int) (a b : Int) : rookP (rookP (ofP 1 (rowsL (stR s) (stR q))) 79 a b) 81 a b 19 = linG 1 (upS q) (upS s) a b 19 := by kernel_rfl
theorem of_lin20 (s q : Nat → Int) (a b : Int) : rookP (rookP (ofP 1 (rowsL (stR s) (stR q))) 79 a b) 81 a b 20 = linG 1 (upS q) (upS s) a b 20 := by kernel_rfl
theorem of_lin21 (s q : Nat → Int) (a b : Int) : rookP (rookP (ofP 1 (rowsL (stR s) (stR q))) 79 a b) 81 a b 21 = linG 1 (upS q) (upS s) a b 21 := by kernel_rfl
theorem of_lin22 (s q : Nat → Int) (a b : Int) : rookP (rookP (ofP 1 (rowsL (stR s) (stR q))) 79 a b) 81 a b 22 = linG 1 (upS q) (upS s) a b 22 := by kernel_rfl
theorem of_lin23 (s q : Nat → Int) (a b : Int) : rookP (rookP (ofP 1 (rowsL (stR s) (stR q))) 79 a b) 81 a b 23 = linG 1 (upS q) (upS s) a b 23 := by kernel_rfl
theorem of_lin24 (s q : Nat → Int) (a b : Int) : rookP (rookP (ofP 1 (rowsL (stR s) (stR q))) 79 a b) 81 a b 24 = linG 1 (upS q) (upS s) a b 24 := by kernel_rfl
theorem of_lin25 (s q : Nat → Int) (a b : Int) : rookP (rookP (ofP 1 (rowsL (stR s) (stR q))) 79 a b) 81 a b 25 = linG 1 (upS q) (upS s) a b 25 := by kernel_rfl
theorem of_lin26 (s q : Nat → Int) (a b : Int) : rookP (rookP (ofP 1 (rowsL (stR s) (stR q))) 79 a b) 81 a b 26 = linG 1 (upS q) (upS s) a b 26 := by kernel_rfl
theorem of_lin27 (s q : Nat → Int) (a b : Int) : rookP (rookP (ofP 1 (rowsL (stR s) (stR q))) 79 a b) 81 a b 27 = linG 1 (upS q) (upS s) a b 27 := by kernel_rfl
theorem of_lin28 (s q : Nat → Int) (a b : Int) : rookP (rookP (ofP 1 (rowsL (stR s) (stR q))) 79 a b) 81 a b 28 = linG 1 (upS q) (upS s) a b 28 := by kernel_rfl
theorem of_lin29 (s q : Nat → Int) (a b : Int) : rookP (rookP (ofP 1 (rowsL (stR s) (stR q))) 79 a b) 81 a b 29 = linG 1 (upS q) (upS s) a b 29 := by kernel_rfl
theorem of_lin30 (s q : Nat → Int) (a b : Int) : rookP (rookP (ofP 1 (rowsL (stR s) (stR q))) 79 a b) 81 a b 30 = linG 1 (upS q) (upS s) a b 30 := by kernel_rfl
theorem of_lin31 (s q : Nat → Int) (a b : Int) : rookP (rookP (ofP 1 (rowsL (stR s) (stR q))) 79 a b) 81 a b 31 = linG 1 (upS q) (upS s) a b 31 := by kernel_rfl
theorem of_lin32 (s q : Nat → Int) (a b : Int) : rookP (rookP (ofP 1 (rowsL (stR s) (stR q))) 79 a b) 81 a b 32 = linG 1 (upS q) (upS s) a b 32 := by kernel_rfl
theorem of_lin33 (s q : Nat → Int) (a b : Int) : rookP (rookP (ofP 1 (rowsL (stR s) (stR q))) 79 a b) 81 a b 33 = linG 1 (upS q) (upS s) a b 33 := by kernel_rfl
theorem of_lin34 (s q : Nat → Int) (a b : Int) : rookP (rookP (ofP 1 (rowsL (stR s) (stR q))) 79 a b) 81 a b 34 = linG 1 (upS q) (upS s) a b 34 := by kernel_rfl
theorem of_lin35 (s q : Nat → Int) (a b : Int) : rookP (rookP (ofP 1 (rowsL (stR s) (stR q))) 79 a b) 81 a b 35 = linG 1 (upS q) (upS s) a b 35 := by kernel_rfl
theorem of_lin36 (s q : Nat → Int) (a b : Int) : rookP (rookP (ofP 1 (rowsL (stR s) (stR q))) 79 a b) 81 a b 36 = linG 1 (upS q) (upS s) a b 36 := by kernel_rfl
theorem of_lin37 (s q : Nat → Int) (a b : Int) : rookP (rookP (ofP 1 (rowsL (stR s) (stR q))) 79 a b) 81 a b 37 = linG 1 (upS q) (upS s) a b 37 := by kernel_rfl
theorem of_lin38 (s q : Nat → Int) (a b : Int) : rookP (rookP (ofP 1 (rowsL (stR s) (stR q))) 79 a b) 81 a b 38 = linG 1 (upS q) (upS s) a b 38 := by kernel_rfl
theorem of_lin39 (s q : Nat → Int) (a b : Int) : rookP (rookP (ofP 1 (rowsL (stR s) (stR q))) 79 a b) 81 a b 39 = linG 1 (upS q) (upS s) a b 39 := by kernel_rfl
theorem of_lin40 (s q : Nat → Int) (a b : Int) : rookP (rookP (ofP 1 (rowsL (stR s) (stR q))) 79 a b) 81 a b 40 = linG 1 (upS q) (upS s) a b 40 := by kernel_rfl
theorem of_lin41 (s q : Nat → Int) (a b : Int) : rookP (rookP (ofP 1 (rowsL (stR s) (stR q))) 79 a b) 81 a b 41 = linG 1 (upS q) (upS s) a b 41 := by kernel_rfl
theorem of_lin42 (s q : Nat → Int) (a b : Int) : rookP (rookP (ofP 1 (rowsL (stR s) (stR q))) 79 a b) 81 a b 42 = linG 1 (upS q) (upS s) a b 42 := by kernel_rfl
theorem of_lin43 (s q : Nat → Int) (a b : Int) : rookP (rookP (ofP 1 (rowsL (stR s) (stR q))) 79 a b) 81 a b 43 = linG 1 (upS q) (upS s) a b 43 := by kernel_rfl
theorem of_lin44 (s q : Nat → Int) (a b : Int) : rookP (rookP (ofP 1 (rowsL (stR s) (stR q))) 79 a b) 81 a b 44 = linG 1 (upS q) (upS s) a b 44 := by kernel_rfl
theorem of_lin45 (s q : Nat → Int) (a b : Int) : rookP (rookP (ofP 1 (rowsL (stR s) (stR q))) 79 a b) 81 a b 45 = linG 1 (upS q) (upS s) a b 45 := by kernel_rfl
theorem of_lin46 (s q : Nat → Int) (a b : Int) : rookP (rookP (ofP 1 (rowsL (stR s) (stR q))) 79 a b) 81 a b 46 = linG 1 (upS q) (upS s) a b 46 := by kernel_rfl
theorem of_lin47 (s q : Nat → Int) (a b : Int) : rookP (rookP (ofP 1 (rowsL (stR s) (stR q))) 79 a b) 81 a b 47 = linG 1 (upS q) (upS s) a b 47 := by kernel_rfl
theorem of_lin48 (s q : Nat → Int) (a b : Int) : rookP (rookP (ofP 1 (rowsL (stR s) (stR q))) 79 a b) 81 a b 48 = linG 1 (upS q) (upS s) a b 48 := by kernel_rfl
theorem of_lin49 (s q : Nat → Int) (a b : Int) : rookP (rookP (ofP 1 (rowsL (stR s) (stR q))) 79 a b) 81 a b 49 = linG 1 (upS q) (upS s) a b 49 := by kernel_rfl
theorem of_lin50 (s q : Nat → Int) (a b : Int) : rookP (rookP (ofP 1 (rowsL (stR s) (stR q))) 79 a b) 81 a b 50 = linG 1 (upS q) (upS s) a b 50 := by kernel_rfl
theorem of_lin51 (s q : Nat → Int) (a b : Int) : rookP (rookP (ofP 1 (rowsL (stR s) (stR q))) 79 a b) 81 a b 51 = linG 1 (upS q) (upS s) a b 51 := by kernel_rfl
theorem of_lin52 (s q : Nat → Int) (a b : Int) : rookP (rookP (ofP 1 (rowsL (stR s) (stR q))) 79 a b) 81 a b 52 = linG 1 (upS q) (upS s) a b 52 := by kernel_rfl
theorem of_lin53 (s q : Nat → Int) (a b : Int) : rookP (rookP (ofP 1 (rowsL (stR s) (stR q))) 79 a b) 81 a b 53 = linG 1 (upS q) (upS s) a b 53 := by kernel_rfl
theorem of_lin54 (s q : Nat → Int) (a b : Int) : rookP (rookP (ofP 1 (rowsL (stR s) (stR q))) 79 a b) 81 a b 54 = linG 1 (upS q) (upS s) a b 54 := by kernel_rfl
theorem of_lin55 (s q : Nat → Int) (a b : Int) : rookP (rookP (ofP 1 (rowsL (stR s) (stR q))) 79 a b) 81 a b 55 = linG 1 (upS q) (upS s) a b 55 := by kernel_rfl
theorem of_lin56 (s q : Nat → Int) (a b : Int) : rookP (rookP (ofP 1 (rowsL (stR s) (stR q))) 79 a b) 81 a b 56 = linG 1 (upS q) (upS s) a b 56 := by kernel_rfl
theorem of_lin57 (s q : Nat → Int) (a b : Int) : rookP (rookP (ofP 1 (rowsL (stR s) (stR q))) 79 a b) 81 a b 57 = linG 1 (upS q) (upS s) a b 57 := by kernel_rfl
theorem of_lin58 (s q : Nat → Int) (a b : Int) : rookP (rookP (ofP 1 (rowsL (stR s) (stR q))) 79 a b) 81 a b 58 = linG 1 (upS q) (upS s) a b 58 := by kernel_rfl
theorem of_lin59 (s q : Nat → Int) (a b : Int) : rookP (rookP (ofP 1 (rowsL (stR s) (stR q))) 79 a b) 81 a b 59 = linG 1 (upS q) (upS s) a b 59 := by kernel_rfl
theorem of_lin60 (s q : Nat → Int) (a b : Int) : rookP (rookP (ofP 1 (rowsL (stR s) (stR q))) 79 a b) 81 a b 60 = linG 1 (upS q) (upS s) a b 60 := by kernel_rfl
theorem of_lin61 (s q : Nat → Int) (a b : Int) : rookP (rookP (ofP 1 (rowsL (stR s) (stR q))) 79 a b) 81 a b 61 = linG 1 (upS q) (upS s) a b 61 := by kernel_rfl
theorem of_lin62 (s q : Nat → Int) (a b : Int) : rookP (rookP (ofP 1 (rowsL (stR s) (stR q))) 79 a b) 81 a b 62 = linG 1 (upS q) (upS s) a b 62 := by kernel_rfl
theorem of_lin63 (s q : Nat → Int) (a b : Int) : rookP (rookP (ofP 1 (rowsL (stR s) (stR q))) 79 a b) 81 a b 63 = linG 1 (upS q) (upS s) a b 63 := by kernel_rfl
theorem of_lin64 (s q : Nat → Int) (a b : Int) : rookP (rookP (ofP 1 (rowsL (stR s) (stR q))) 79 a b) 81 a b 64 = linG 1 (upS q) (upS s) a b 64 := by kernel_rfl
theorem of_lin65 (s q : Nat → Int) (a b : Int) : rookP (rookP (ofP 1 (rowsL (stR s) (stR q))) 79 a b) 81 a b 65 = linG 1 (upS q) (upS s) a b 65 := by kernel_rfl
theorem of_lin66 (s q : Nat → Int) (a b : Int) : rookP (rookP (ofP 1 (rowsL (stR s) (stR q))) 79 a b) 81 a b 66 = linG 1 (upS q) (upS s) a b 66 := by kernel_rfl
theorem of_lin67 (s q : Nat → Int) (a b : Int) : rookP (rookP (ofP 1 (rowsL (stR s) (stR q))) 79 a b) 81 a b 67 = linG 1 (upS q) (upS s) a b 67 := by kernel_rfl
theorem of_lin68 (s q : Nat → Int) (a b : Int) : rookP (rookP (ofP 1 (rowsL (stR s) (stR q))) 79 a b) 81 a b 68 = linG 1 (upS q) (upS s) a b 68 := by kernel_rfl
theorem of_lin69 (s q : Nat → Int) (a b : Int) : rookP (rookP (ofP 1 (rowsL (stR s) (stR q))) 79 a b) 81 a b 69 = linG 1 (upS q) (upS s) a b 69 := by kernel_rfl
theorem of_lin70 (s q : Nat → Int) (a b : Int) : rookP (rookP (ofP 1 (rowsL (stR s) (stR q))) 79 a b) 81 a b 70 = linG 1 (upS q) (upS s) a b 70 := by kernel_rfl
theorem of_lin71 (s q : Nat → Int) (a b : Int) : rookP (rookP (ofP 1 (rowsL (stR s) (stR q))) 79 a b) 81 a b 71 = linG 1 (upS q) (upS s) a b 71 := by kernel_rfl
theorem of_lin72 (s q : Nat → Int) (a b : Int) : rookP (rookP (ofP 1 (rowsL (stR s) (stR q))) 79 a b) 81 a b 72 = linG 1 (upS q) (upS s) a b 72 := by kernel_rfl
theorem of_lin73 (s q : Nat → Int) (a b : Int) : rookP (rookP (ofP 1 (rowsL (stR s) (stR q))) 79 a b) 81 a b 73 = linG 1 (upS q) (upS s) a b 73 := by kernel_rfl
theorem of_lin74 (s q : Nat → Int) (a b : Int) : rookP (rookP (ofP 1 (rowsL (stR s) (stR q))) 79 a b) 81 a b 74 = linG 1 (upS q) (upS s) a b 74 := by kernel_rfl
theorem of_lin75 (s q : Nat → Int) (a b : Int) : rookP (rookP (ofP 1 (rowsL (stR s) (stR q))) 79 a b) 81 a b 75 = linG 1 (upS q) (upS s) a b 75 := by kernel_rfl
theorem of_lin76 (s q : Nat → Int) (a b : Int) : rookP (rookP (ofP 1 (rowsL (stR s) (stR q))) 79 a b) 81 a b 76 = linG 1 (upS q) (upS s) a b 76 := by kernel_rfl
theorem of_lin77 (s q : Nat → Int) (a b : Int) : rookP (rookP (ofP 1 (rowsL (stR s) (stR q))) 79 a b) 81 a b 77 = linG 1 (upS q) (upS s) a b 77 := by kernel_rfl
theorem of_lin78 (s q : Nat → Int) (a b : Int) : rookP (rookP (ofP 1 (rowsL (stR s) (stR q))) 79 a b) 81 a b 78 = linG 1 (upS q) (upS s) a b 78 := by kernel_rfl
theorem of_lin79 (s q : Nat → Int) (a b : Int) : rookP (rookP (ofP 1 (rowsL (stR s) (stR q))) 79 a b) 81 a b 79 = linG 1 (upS q) (upS s) a b 79 := by kernel_rfl
theorem of_lin80 (s q : Nat → Int) (a b : Int) : rookP (rookP (ofP 1 (rowsL (stR s) (stR q))) 79 a b) 81 a b 80 = linG 1 (upS q) (upS s) a b 80 := by kernel_rfl
theorem of_lin81 (s q : Nat → Int) (a b : Int) : rookP (rookP (ofP 1 (rowsL (stR s) (stR q))) 79 a b) 81 a b 81 = linG 1 (upS q) (upS s) a b 81 := by kernel_rfl
theorem of_lin82 (s q : Nat → Int) (a b : Int) : rookP (rookP (ofP 1 (rowsL (stR s) (stR q))) 79 a b) 81 a b 82 = linG 1 (upS q) (upS s) a b 82 := by kernel_rfl
theorem of_lin83 (s q : Nat → Int) (a b : Int) : rookP (rookP (ofP 1 (rowsL (stR s) (stR q))) 79 a b) 81 a b 83 = linG 1 (upS q) (upS s) a b 83 := by kernel_rfl
theorem of_lin84 (s q : Nat → Int) (a b : Int) : rookP (rookP (ofP 1 (rowsL (stR s) (stR q))) 79 a b) 81 a b 84 = linG 1 (upS q) (upS s) a b 84 := by kernel_rfl
theorem of_lin85 (s q : Nat → Int) (a b : Int) : rookP (rookP (ofP 1 (rowsL (stR s) (stR q))) 79 a b) 81 a b 85 = linG 1 (upS q) (upS s) a b 85 := by kernel_rfl
theorem of_lin86 (s q : Nat → Int) (a b : Int) : rookP (rookP (ofP 1 (rowsL (stR s) (stR q))) 79 a b) 81 a b 86 = linG 1 (upS q) (upS s) a b 86 := by kernel_rfl
theorem of_lin87 (s q : Nat → Int) (a b : Int) : rookP (rookP (ofP 1 (rowsL (stR s) (stR q))) 79 a b) 81 a b 87 = linG 1 (upS q) (upS s) a b 87 := by kernel_rfl
theorem of_lin (s q : Nat → Int) (a b : Int) : ∀ i, i < 88 → rookP (rookP (ofP 1 (rowsL (stR s) (stR q))) 79 a b) 81 a b i = linG 1 (upS q) (upS s) a b i := fun i hi => by
  match i, hi with
  | 0, _ => exact of_lin0 s q a b
  | 1, _ => exact of_lin1 s q a b
  | 2, _ => exact of_lin2 s q a b
  | 3, _ => exact of_lin3 s q a b
  | 4, _ => exact of_lin4 s q a b
  | 5, _ => exact of_lin5 s q a b
  | 6, _ => exact of_lin6 s q a b
  | 7, _ => exact of_lin7 s q a b
  | 8, _ => exact of_lin8 s q a b
  | 9, _ => exact of_lin9 s q a b
  | 10, _ => exact of_lin10 s q a b
  | 11, _ => exact of_lin11 s q a b
  | 12, _ => exact of_lin12 s q a b
  | 13, _ => exact of_lin13 s q a b
  | 14, _ => exact of_lin14 s q a b
  | 15, _ => exact of_lin15 s q a b
  | 16, _ => exact of_lin16 s q a b
  | 17, _ => exact of_lin17 s q a b
  | 18, _ => exact of_lin18 s q a b
  | 19, _ => exact of_lin19 s q a b
  | 20, _ => exact of_lin20 s q a b
  | 21, _ => exact of_lin21 s q a b
  | 22, _ => exact of_lin22 s q a b
  | 23, _ => exact of_lin23 s q a b
  | 24, _ => exact of_lin24 s q a b
  | 25, _ => exact of_lin25 s q a b
  | 26, _ => exact of_lin26 s q a b
  | 27, _ => exact of_lin27 s q a b
  | 28, _ => exact of_lin28 s q a b
  | 29, _ => exact of_lin29 s q a b
  | 30, _ => exact of_lin30 s q a b
  | 31, _ => exact of_lin31 s q a b
  | 32, _ => exact of_lin32 s q a b
  | 33, _ => exact of_lin33 s q a b
  | 34, _ => exact of_lin34 s q a b
  | 35, _ => exact of_lin35 s q a b
  | 36, _ => exact of_lin36 s q a b
  | 37, _ => exact of_lin37 s q a b
  | 38, _ => exact of_lin38 s q a b
  | 39, _ => exact of_lin39 s q a b
  | 40, _ => exact of_lin40 s q a b
  | 41, _ => exact of_lin41 s q a b
  | 42, _ => exact of_lin42 s q a b
  | 43, _ => exact of_lin43 s q a b
  | 44, _ => exact of_lin44 s q a b
  | 45, _ => exact of_lin45 s q a b
  | 46, _ => exact of_lin46 s q a b
  | 47, _ => exact of_lin47 s q a b
  | 48, _ => exact of_lin48 s q a b
  | 49, _ => exact of_lin49 s q a b
  | 50, _ => exact of_lin50 s q a b
  | 51, _ => exact of_lin51 s q a b
  | 52, _ => exact of_lin52 s q a b
  | 53, _ => exact of_lin53 s q a b
  | 54, _ => exact of_lin54 s q a b
  | 55, _ => exact of_lin55 s q a b
  | 56, _ => exact of_lin56 s q a b
  | 57, _ => exact of_lin57 s q a b
  | 58, _ => exact of_lin58 s q a b
  | 59, _ => exact of_lin59 s q a b
  | 60, _ => exact of_lin60 s q a b
  | 61, _ => exact of_lin61 s q a b
  | 62, _ => exact of_lin62 s q a b
  | 63, _ => exact of_lin63 s q a b
  | 64, _ => exact of_lin64 s q a b
  | 65, _ => exact of_lin65 s q a b
  | 66, _ => exact of_lin66 s q a b
  | 67, _ => exact of_lin67 s q a b
  | 68, _ => exact of_lin68 s q a b
  | 69, _ => exact of_lin69 s q a b
  | 70, _ => exact of_lin70 s q a b
  | 71, _ => exact of_lin71 s q a b
  | 72, _ => exact of_lin72 s q a b
  | 73, _ => exact of_lin73 s q a b
  | 74, _ => exact of_lin74 s q a b
  | 75, _ => exact of_lin75 s q a b
  | 76, _ => exact of_lin76 s q a b
  | 77, _ => exact of_lin77 s q a b
  | 78, _ => exact of_lin78 s q a b
  | 79, _ => exact of_lin79 s q a b
  | 80, _ => exact of_lin80 s q a b
  | 81, _ => exact of_lin81 s q a b
  | 82, _ => exact of_lin82 s q a b
  | 83, _ => exact of_lin83 s q a b
  | 84, _ => exact of_lin84 s q a b
  | 85, _ => exact of_lin85 s q a b
  | 86, _ => exact of_lin86 s q a b
  | 87, _ => exact of_lin87 s q a b
  | n + 88, h => exact absurd h (by omega)
theorem linG_ext {v : Int} {up up' lo lo' : Nat → Int} {a a' b b' : Int} (hu : ∀ j, j < 8 → up j = up' j) (hl : ∀ j, j < 8 → lo j = lo' j) (ha : a = a') (hb : b = b') (i : Nat) : linG v up lo a b i = linG v up' lo' a' b' i := by
  subst ha; subst hb
  unfold linG
  by_cases h0 : i = 0
  · rw [if_pos h0, if_pos h0]
  · by_cases h1 : i ≤ 8
    · rw [if_neg h0, if_neg h0, if_pos h1, if_pos h1]; exact hu _ (by omega)
    · by_cases h5 : 56 < i ∧ i ≤ 64
      · rw [if_neg h0, if_neg h0, if_neg h1, if_neg h1, if_neg (show ¬ i ≤ 16 by omega), if_neg (show ¬ i ≤ 16 by omega), if_neg (show ¬ i ≤ 48 by omega), if_neg (show ¬ i ≤ 48 by omega), if_neg (show ¬ i ≤ 56 by omega), if_neg (show ¬ i ≤ 56 by omega), if_pos h5.2, if_pos h5.2]
        exact hl _ (by omega)
      · rw [if_neg h0, if_neg h0, if_neg h1, if_neg h1]
        by_cases h2 : i ≤ 16
        · rw [if_pos h2, if_pos h2]
        · rw [if_neg h2, if_neg h2]
          by_cases h3 : i ≤ 48
          · rw [if_pos h3, if_pos h3]
          · rw [if_neg h3, if_neg h3]
            by_cases h4 : i ≤ 56
            · rw [if_pos h4, if_pos h4]
            · rw [if_neg h4, if_neg h4, if_neg (show ¬ i ≤ 64 by omega), if_neg (show ¬ i ≤ 64 by omega)]
theorem map_at {l m : List Nat} {f g : Nat → Nat} (h : l.map f = m.map g) (hl : l.length = 8) (hm : m.length = 8) (j : Nat) (hj : j < 8) : f (l.getD j 0) = g (m.getD j 0) := by
  have e := congrArg (·[j]?) h
  simp only [List.getElem?_map] at e
  rw [List.getD_eq_getElem?_getD, List.getD_eq_getElem?_getD, List.getElem?_eq_getElem (by omega), List.getElem?_eq_getElem (by omega)]
  rw [List.getElem?_eq_getElem (by omega), List.getElem?_eq_getElem (by omega)] at e
  simpa using e
theorem bv_nat (x : Nat) (h : x < 256) : bv (x : Int) = x := by
  unfold bv
  rw [Int.toNat_natCast]
  simp only [UInt8.toNat_ofNat']
  exact Nat.mod_eq_of_lt h
/-- The same first position of each number. -/
theorem same_960 (n : Nat) (hn : n < 960) : posA (posN n) = posA (rposN n) := posA_ext fun i hi => by
  have hz := rowZ_rep n
  have hd := rfD_rep n
  obtain ⟨e1, e2⟩ := ref_row ⟨n, hn⟩
  obtain ⟨k1, k2⟩ := ref_rooks ⟨n, hn⟩
  have e1' : (refD n).map letN = (rowL n).map id := by rw [List.map_id]; exact e1
  have r8 : ∀ j, j < 8 → (refD n).getD j 0 ≤ 90 := fun j hj => by
    have := (rfD_rng n hn j hj).2
    rw [hd.at_ j hj] at this
    omega
  show bothP 1 (rowZ n) i = rookP (rookP (ofP 1 (rowsL (stR (loN (rfD n) 8)) (stR (rfD n)))) 79 _ _) 81 _ _ i
  rw [both_lin _ i hi, of_lin _ _ _ _ i hi]
  refine linG_ext (fun j hj => ?_) (fun j hj => ?_) ?_ ?_ i
  · show 8 * ((0 : Nat) : Int) + rowZ n j = ((letN (bv (rfD n j)) : Nat) : Int)
    rw [hz.at_ j hj, hd.at_ j hj, bv_nat _ (by have := r8 j hj; omega), map_at e1' hd.len hz.len j hj]
    simp
  · show 8 * ((1 : Nat) : Int) + rowZ n j = ((letN (bv (loN (rfD n) 8 j)) : Nat) : Int)
    rw [loN_at _ 8 j hj, hz.at_ j hj, hd.at_ j hj, show (((refD n).getD j 0 : Nat) : Int) + 32 = (((refD n).getD j 0 + 32 : Nat) : Int) by omega, bv_nat _ (by have := r8 j hj; omega)]
    have := map_at (f := fun b => letN (b + 32)) e2 hd.len hz.len j hj
    simp only at this
    rw [this]
    omega
  · rw [← k1]; exact rf0_ext 8 fun j hj => hz.at_ j hj
  · rw [← k2]; exact rf1_ext 8 fun j hj => hz.at_ j hj
set_option maxRecDepth 100000 in
theorem same_start (v : Nat) (hv : v < 9) (h1 : v ≠ 1) : posA (startP v) = posA (rstP v) := posA_ext fun i hi => by
  have key : ∀ v : Fin 9, v.val ≠ 1 → ∀ i : Fin 88, startP v.val i.val = rstP v.val i.val := by decide +kernel
  exact key ⟨v, hv⟩ h1 ⟨i, hi⟩
theorem fits {k : IntKind} {n : Int} (h : k.min ≤ n ∧ n ≤ k.max) : (Lit.int k n).wf = true := by simp [Lit.wf, h.1, h.2]
theorem kAt_u {o : Nat} (k : o < 65 ∨ 66 ≤ o ∧ o < 79 ∨ o = 84 ∨ o = 85) : kAt o = .u8 := by unfold kAt; rw [if_neg (by omega), if_neg (by omega), if_neg (by omega)]
theorem kAt_i {o : Nat} (h : 79 ≤ o) (k : o ≤ 83) : kAt o = .i8 := by unfold kAt; rw [if_neg (by omega), if_pos ⟨h, k⟩]
theorem fit_u {n : Int} (h : 0 ≤ n ∧ n ≤ 255) : (Lit.int .u8 n).wf = true := fits h
theorem fit_i {n : Int} (h : -128 ≤ n ∧ n ≤ 127) : (Lit.int .i8 n).wf = true := fits h
theorem rf0_rng (r : Nat → Int) : ∀ k, -1 ≤ rf0 r k ∧ rf0 r k < k
  | 0 => by unfold rf0; omega
  | k + 1 => by
    have := rf0_rng r k
    unfold rf0
    cases r k == 4
    · simp only [cond_false]; omega
    · simp only [cond_true]; omega
theorem rf1_rng (r : Nat → Int) : ∀ k, -1 ≤ rf1 r k ∧ rf1 r k < k
  | 0 => by unfold rf1; omega
  | k + 1 => by
    have := rf1_rng r k
    unfold rf1
    cases (r k == 4) && (rf1 r k == -1)
    · simp only [cond_false]; omega
    · simp only [cond_true]; omega
theorem wf_posN (n : Nat) (hn : n < 960) : WfP (posN n) := fun i hi => by
  have hr : ∀ j, j < 8 → 0 ≤ rowZ n j ∧ rowZ n j ≤ 7 := fun j hj => by
    obtain ⟨m, h1, h2⟩ := kinds_row n hn j hj
    omega
  have a := rf0_rng (rowZ n) 8
  have b := rf1_rng (rowZ n) 8
  show (Lit.int (kAt i) (bothP 1 (rowZ n) i)).wf = true
  rw [both_lin _ i hi]
  by_cases h0 : i = 0
  · subst h0; rfl
  · by_cases h1 : i ≤ 8
    · rw [kAt_u (by omega)]
      have := hr (i - 1) (by omega)
      unfold linG upR
      rw [if_neg h0, if_pos h1]
      exact fit_u (by omega)
    · by_cases h2 : i ≤ 56
      · rw [kAt_u (by omega)]
        unfold linG
        rw [if_neg h0, if_neg h1]
        by_cases h3 : i ≤ 16
        · rw [if_pos h3]; rfl
        · rw [if_neg h3]
          by_cases h4 : i ≤ 48
          · rw [if_pos h4]; rfl
          · rw [if_neg h4, if_pos h2]; rfl
      · by_cases h3 : i ≤ 64
        · rw [kAt_u (by omega)]
          have := hr (i - 57) (by omega)
          unfold linG loR
          rw [if_neg h0, if_neg h1, if_neg (by omega), if_neg (by omega), if_neg h2, if_pos h3]
          exact fit_u (by omega)
        · by_cases h4 : 79 ≤ i ∧ i ≤ 83
          · rw [kAt_i h4.1 h4.2]
            unfold linG
            rw [if_neg h0, if_neg h1, if_neg (by omega), if_neg (by omega), if_neg h2, if_neg h3]
            by_cases h5 : i = 79 ∨ i = 81
            · rw [if_pos h5]; exact fit_i (by omega)
            · rw [if_neg h5]
              by_cases h6 : i = 80 ∨ i = 82
              · rw [if_pos h6]; exact fit_i (by omega)
              · rw [if_neg h6, if_pos (by omega)]; rfl
          · unfold linG
            rw [if_neg h0, if_neg h1, if_neg (by omega), if_neg (by omega), if_neg h2, if_neg h3, if_neg (by omega), if_neg (by omega), if_neg (by omega)]
            unfold kAt
            by_cases h7 : i = 87
            · subst h7; rfl
            · rw [if_neg h7]
              split
              · rfl
              · split <;> first | rfl | (split <;> rfl)
theorem WfP.zero : WfP zeroP := fun i hi => by
  unfold kAt zeroP
  split
  · rfl
  · split
    · rfl
    · split <;> rfl
set_option maxRecDepth 100000 in
theorem wf_start (v : Nat) : WfP (startP v) := by
  by_cases h9 : 9 ≤ v
  · rw [start_no v h9]; exact WfP.zero
  · by_cases h1 : v = 1
    · subst h1; exact wf_posN 518 (by omega)
    · intro i hi
      have key : ∀ v : Fin 9, v.val ≠ 1 → ∀ i : Fin 88, (Lit.int (kAt i.val) (startP v.val i.val)).wf = true := by decide +kernel
      exact key ⟨v, by omega⟩ h1 ⟨i, hi⟩
end Go.Proofs.YtkeoadcckbcccaaDoor
