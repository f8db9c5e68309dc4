/-
 Several texts in one: RuRow, RuPlace, RuArmy, RuShuf, RuHorde, RuRace, RuStart.
-/
import Derived.Test.YtidgfadbdgheiaaGreatDoorVaBaseB
import Derived.IntWalk
/-
 The document's row of each number of chess960, as bytes, against the program's: told over all 960 numbers by the kernel.
-/
namespace Go.Proofs.YtidgfadbdgheiaaGreatDoor
set_option linter.unusedVariables false
/-! The document's row of a number, as bytes. -/
/-- The last rook below a place, and the first one. -/
def rf0 (r : Nat → Int) : Nat → Int
 | 0 => -1
 | k + 1 => bif r k == 4 then (k : Int) else rf0 r k
def rf1 (r : Nat → Int) : Nat → Int
 | 0 => -1
 | k + 1 => bif (r k == 4) && (rf1 r k == -1) then (k : Int) else rf1 r k
def ofL (l : List Nat) : Nat → Int := fun i => ((l.getD i 0 : Nat) : Int)
theorem Rep.of {r : Nat → Int} {l : List Nat} (h : Rep r l) (i : Nat) (hi : i < 8) : r i = ofL l i := h.at_ i hi
end Go.Proofs.YtidgfadbdgheiaaGreatDoor
/-
 Contracts of the program's placed and rookFiles.
-/
namespace Go.Proofs.YtidgfadbdgheiaaGreatDoor
open Go.RowKit
set_option linter.unusedVariables false

theorem seek_full {r : Nat → Int} {n k d : Nat} (h : (r k != 0) = true) : seekR r (n + 1) k d = seekR r n (k + 1) d := by
 have : (r k == 0) = false := by simpa [bne] using h
 show (bif r k == 0 then _ else _) = _
 rw [this]; rfl
theorem seek_here {r : Nat → Int} {n k : Nat} (h : (r k != 0) = false) : seekR r (n + 1) k 0 = k := by
 have : (r k == 0) = true := by simpa [bne] using h
 unfold seekR; rw [this]; rfl
theorem seek_next {r : Nat → Int} {n k d : Nat} (h : (r k != 0) = false) : seekR r (n + 1) k (d + 1) = seekR r n (k + 1) d := by
 have : (r k == 0) = true := by simpa [bne] using h
 rw [seekR, this]; rfl
set_option maxHeartbeats 1000000 in
theorem placed_any (r : Nat → Int) (c : Nat) (x : Int) (w : World) (hc : c ≤ 8) : Calls Tryz.prog 148 #[.agg (arrA 8 .u8 r), .int .i64 (c : Int), .int .u8 x] w (RowL (placeR r c x) w) := by
 obtain ⟨s, Hs⟩ : ∃ s, Hid (seekR r 8 0 c = s) := ⟨_, Lib.hid rfl⟩
 have HE := Lib.hid (show placeR r c x = upd r s x by unfold placeR; rw [Hs.out])
 go_enter Tryz.func148, Tryz.ntmps148
 go_wp2_with (first
  | (refine blk_box rfl 92 _ rfl (arrA 8 .u8 r) rfl ?_; intro b3 w1 N R; have HG3 := Lib.hid (Nat.le_of_eq N.at_.symm); have HR3 := Lib.hid R; have HB := Lib.hid N.below; clear N R)
  | (refine arr_alloc rfl 92 rfl 8 .u8 zero58 ?_; intro b6 w1 N R; have HG6 := Lib.hid (show w.heap.size ≤ b6 by have := N.at_; have := HB.out.size; omega); have HD := Lib.hid (show b6 ≠ b3 by have := N.at_; have := HR3.out.lt; omega); have HR3 := Lib.hid (HR3.out.later N.below); have HR6 := Lib.hid R; have HB := Lib.hid (below_on HB.out N.below); clear N R)
  | (refine arr_load rfl 92 _ rfl b3 rfl 8 .u8 r HR3.out _ Tryz.underlying92 rfl size58 ?_))
 go_loopw [1, 10] (fun d i wr => ∃ k m : Nat, k ≤ 8 ∧ m ≤ 8 ∧ i = .int .i64 (k : Int) ∧ d = .int .i64 (m : Int) ∧ seekR r (8 - k) k m = s ∧ Blk wr b3 92 (arrA 8 .u8 r) ∧ Blk wr b6 92 (arrA 8 .u8 zeroP) ∧ Below w.heap.size w wr) (fun _ i _ => 8 - (intOf i).toNat)
 case atStart => exact ⟨0, c, by omega, hc, rfl, rfl, Hs.out, HR3.out, HR6.out, HB.out⟩
 case round =>
  clear HR3 HR6 HB
  obtain ⟨k, m, hk, hm, rfl, rfl, hs, h3, h6, hb⟩ := hrel
  have HS := Lib.hid hs
  have HR3 := Lib.hid h3
  have HR6 := Lib.hid h6
  have HB := Lib.hid hb
  clear hs h3 h6 hb
  by_cases hlt : k < 8
  ·obtain ⟨n, Hn⟩ : ∃ n, Hid (8 - k = n + 1) := ⟨7 - k, Lib.hid (by omega)⟩
   have HN := Lib.hid (show 8 - (k + 1) = n by have := Hn.out; omega)
   have HS := Lib.hid (show seekR r (n + 1) k m = s by rw [← Hn.out]; exact HS.out)
   obtain ⟨y, Hy⟩ : ∃ y, Hid (r k = y) := ⟨_, Lib.hid rfl⟩
   cases g : (y != 0)
   ·by_cases h0 : m = 0
    ·subst h0
     have HK := Lib.hid (show k = s by have := HS.out; rwa [seek_here (by rw [Hy.out]; exact g)] at this)
     go_wp2_with (first
      | (refine arr_index rfl 92 5 _ _ rfl 8 .u8 r rfl k rfl hlt Tryz.underlying92 Tryz.underlying5 size5 ?_; rw [Hy.out])
      | (refine arr_cell rfl 5 _ _ rfl b3 k rfl .u8 x rfl 92 8 r HR3.out hlt size5 ?_; intro w2 U R; have HR6 := Lib.hid (HR6.out.apart U HD.out); have HR3 := Lib.hid R; have HB := Lib.hid (HB.out.trans (U.below HG3.out)); clear U R)
      | (refine arr_load rfl 92 _ rfl b3 rfl 8 .u8 (upd r k x) HR3.out _ Tryz.underlying92 rfl size58 ?_)
      | (refine arr_store rfl 92 _ _ rfl b6 rfl 8 .u8 zeroP (upd r k x) rfl HR6.out size58 ?_; intro w2 U R; have HR6 := Lib.hid R; have HB := Lib.hid (HB.out.trans (U.below HG6.out)); clear U R))
     refine bodyPost_ret (v := .agg (arrA 8 .u8 (upd r k x))) (results_arr rfl _ _ _ _ rfl HR6.out) rfl ⟨by rw [HE.out, ← HK.out], HB.out⟩
    ·obtain ⟨d, rfl⟩ : ∃ d, m = d + 1 := ⟨m - 1, by omega⟩
     have HS := Lib.hid (show seekR r n (k + 1) d = s by have := HS.out; rwa [seek_next (by rw [Hy.out]; exact g)] at this)
     have g1 : (((d : Int) + 1) == 0) = false := by simp; omega
     go_wp2_with (refine arr_index rfl 92 5 _ _ rfl 8 .u8 r rfl k rfl hlt Tryz.underlying92 Tryz.underlying5 size5 ?_; rw [Hy.out])
     go_roundw
     case rel => exact ⟨k + 1, d, by omega, by omega, by go_num, by go_num, by rw [HN.out]; exact HS.out, HR3.out, HR6.out, HB.out⟩
     case measure => simp [intOf]; omega
   ·have HS := Lib.hid (show seekR r n (k + 1) m = s by have := HS.out; rwa [seek_full (by rw [Hy.out]; exact g)] at this)
    go_wp2_with (refine arr_index rfl 92 5 _ _ rfl 8 .u8 r rfl k rfl hlt Tryz.underlying92 Tryz.underlying5 size5 ?_; rw [Hy.out])
    go_roundw
    case rel => exact ⟨k + 1, m, by omega, by omega, by go_num, rfl, by rw [HN.out]; exact HS.out, HR3.out, HR6.out, HB.out⟩
    case measure => simp [intOf]; omega
  ·obtain rfl : k = 8 := by omega
   have HK := Lib.hid (show s = 8 from HS.out.symm)
   go_wp2_with (first
    | (refine arr_load rfl 92 _ rfl b3 rfl 8 .u8 r HR3.out _ Tryz.underlying92 rfl size58 ?_)
    | (refine arr_store rfl 92 _ _ rfl b6 rfl 8 .u8 zeroP r rfl HR6.out size58 ?_; intro w2 U R; have HR6 := Lib.hid R; have HB := Lib.hid (HB.out.trans (U.below HG6.out)); clear U R))
   refine bodyPost_ret (v := .agg (arrA 8 .u8 r)) (results_arr rfl _ _ _ _ rfl HR6.out) rfl ⟨?_, HB.out⟩
   rw [HE.out, HK.out, arrA_ext (p := upd r 8 x) (q := r) fun i hi => upd_other _ _ _ _ (by omega)]
theorem size35 : (Tryz.prog.info? 27).map (·.size) = some 2 := by kernel_rfl
theorem size34 : (Tryz.prog.info? 26).map (·.size) = some 1 := by kernel_rfl
theorem zero35 : (Tryz.prog.info? 27).map (fun i => (i.zero, i.size)) = some (some (.agg #[.int .i8 0, .int .i8 0]), 2) := by kernel_rfl
theorem two_one (a b : Int) : (#[Value.int .i8 a, .int .i8 b] : Array Value).all (·.oneCell') = true := by simp [Value.oneCell']
theorem rf0_yes {r : Nat → Int} {k : Nat} (h : (r k != 4) = false) : rf0 r (k + 1) = (k : Int) := by
 have : (r k == 4) = true := by simpa [bne] using h
 rw [rf0, this]; rfl
theorem rf0_no {r : Nat → Int} {k : Nat} (h : (r k != 4) = true) : rf0 r (k + 1) = rf0 r k := by
 have : (r k == 4) = false := by simpa [bne] using h
 rw [rf0, this]; rfl
theorem rf1_yes {r : Nat → Int} {k : Nat} (h : (r k != 4) = false) (g : (rf1 r k == -1) = true) : rf1 r (k + 1) = (k : Int) := by
 have : (r k == 4) = true := by simpa [bne] using h
 rw [rf1, this, g]; rfl
theorem rf1_was {r : Nat → Int} {k : Nat} (h : (r k != 4) = false) (g : (rf1 r k == -1) = false) : rf1 r (k + 1) = rf1 r k := by
 have : (r k == 4) = true := by simpa [bne] using h
 rw [rf1, this, g]; rfl
theorem rf1_no {r : Nat → Int} {k : Nat} (h : (r k != 4) = true) : rf1 r (k + 1) = rf1 r k := by
 have : (r k == 4) = false := by simpa [bne] using h
 rw [rf1, this]; rfl
set_option maxHeartbeats 1000000 in
theorem rooks_any (r : Nat → Int) (w : World) : Calls Tryz.prog 149 #[.agg (arrA 8 .u8 r)] w (AggL #[.int .i8 (rf0 r 8), .int .i8 (rf1 r 8)] w) := by
 go_enter Tryz.func149, Tryz.ntmps149
 go_wp2_with (first
  | (refine blk_box rfl 92 _ rfl (arrA 8 .u8 r) rfl ?_; intro b1 w1 N R; have HG1 := Lib.hid (Nat.le_of_eq N.at_.symm); have HR1 := Lib.hid R; have HB := Lib.hid N.below; clear N R)
  | (refine blk_alloc (op := ⟨some 2, _, _, _, _, _⟩) rfl 27 rfl #[.int .i8 0, .int .i8 0] zero35 ?_; intro b2 w1 N R; have HG2 := Lib.hid (show w.heap.size ≤ b2 by have := N.at_; have := HB.out.size; omega); have HR1 := Lib.hid (HR1.out.later N.below); have HR2 := Lib.hid R; have HB := Lib.hid (below_on HB.out N.below); clear N R)
  | (refine blk_alloc rfl 27 rfl #[.int .i8 0, .int .i8 0] zero35 ?_; intro b3 w1 N R; have HG3 := Lib.hid (show w.heap.size ≤ b3 by have := N.at_; have := HB.out.size; omega); have HD := Lib.hid (show b2 ≠ b3 by have := N.at_; have := HR2.out.lt; omega); have HD1 := Lib.hid (show b1 ≠ b3 by have := N.at_; have := HR1.out.lt; omega); have HR1 := Lib.hid (HR1.out.later N.below); have HR2 := Lib.hid (HR2.out.later N.below); have HR3 := Lib.hid R; have HB := Lib.hid (below_on HB.out N.below); clear N R)
  | (refine blk_store rfl 27 _ _ rfl b3 rfl #[.int .i8 0, .int .i8 0] #[.int .i8 (-1), .int .i8 (-1)] rfl HR3.out rfl (two_one _ _) size35 ?_; intro w2 U R; have HR2 := Lib.hid (HR2.out.apart U HD.out); have HR3 := Lib.hid R; have HR1 := Lib.hid (HR1.out.apart U HD1.out); have HB := Lib.hid (HB.out.trans (U.below HG3.out)); clear U R)
  | (refine arr_load rfl 92 _ rfl b1 rfl 8 .u8 r HR1.out _ Tryz.underlying92 rfl size58 ?_))
 go_loopw [8] (fun i wr => ∃ k : Nat, k ≤ 8 ∧ i = .int .i64 (k : Int) ∧ Blk wr b3 27 #[.int .i8 (rf0 r k), .int .i8 (rf1 r k)] ∧ Blk wr b2 27 #[.int .i8 0, .int .i8 0] ∧ Below w.heap.size w wr) (fun i _ => 8 - (intOf i).toNat)
 case atStart => exact ⟨0, by omega, rfl, HR3.out, HR2.out, HB.out⟩
 case round =>
  clear HR3 HR2 HB
  obtain ⟨k, hk, rfl, h3, h2, hb⟩ := hrel
  have HR3 := Lib.hid h3
  have HR2 := Lib.hid h2
  have HB := Lib.hid hb
  clear h3 h2 hb
  by_cases hlt : k < 8
  ·obtain ⟨y, Hy⟩ : ∃ y, Hid (r k = y) := ⟨_, Lib.hid rfl⟩
   obtain ⟨z0, Hz0⟩ : ∃ z, Hid (rf0 r k = z) := ⟨_, Lib.hid rfl⟩
   obtain ⟨z1, Hz1⟩ : ∃ z, Hid (rf1 r k = z) := ⟨_, Lib.hid rfl⟩
   rw [Hz0.out, Hz1.out] at HR3
   cases g : (y != 4)
   ·have H0 := Lib.hid (rf0_yes (r := r) (k := k) (by rw [Hy.out]; exact g))
    have hw8 : IntKind.i8.wrap (k : Int) = (k : Int) := IntWalk.i8_in _ (by omega)
    cases g1 : (z1 == -1)
    ·have H1 := Lib.hid (rf1_was (r := r) (k := k) (by rw [Hy.out]; exact g) (by rw [Hz1.out]; exact g1))
     go_wp2_with (first
      | (refine arr_index rfl 92 5 _ _ rfl 8 .u8 r rfl k rfl hlt Tryz.underlying92 Tryz.underlying5 size5 ?_; rw [Hy.out])
      | (refine blk_cell rfl 26 _ _ rfl b3 0 rfl .i8 (k : Int) rfl 27 _ HR3.out (by show 0 < 2; omega) size34 ?_; intro w2 U R; have HR2 := Lib.hid (HR2.out.apart U HD.out); have HR3 := Lib.hid (show Blk _ b3 27 #[.int .i8 (k : Int), .int .i8 z1] from R); have HB := Lib.hid (HB.out.trans (U.below HG3.out)); clear U R)
      | (refine step_get rfl 26 _ rfl b3 1 rfl Tryz.underlying26 rfl (.int .i8 z1) (by rw [HR3.out.cell]; rfl) ?_))
     go_roundw
     case rel => exact ⟨k + 1, by omega, by go_num, by rw [H0.out, H1.out, Hz1.out]; exact HR3.out, HR2.out, HB.out⟩
     case measure => simp [intOf]; omega
    ·have H1 := Lib.hid (rf1_yes (r := r) (k := k) (by rw [Hy.out]; exact g) (by rw [Hz1.out]; exact g1))
     go_wp2_with (first
      | (refine arr_index rfl 92 5 _ _ rfl 8 .u8 r rfl k rfl hlt Tryz.underlying92 Tryz.underlying5 size5 ?_; rw [Hy.out])
      | (refine blk_cell rfl 26 _ _ rfl b3 0 rfl .i8 (k : Int) rfl 27 _ HR3.out (by show 0 < 2; omega) size34 ?_; intro w2 U R; have HR2 := Lib.hid (HR2.out.apart U HD.out); have HR3 := Lib.hid (show Blk _ b3 27 #[.int .i8 (k : Int), .int .i8 z1] from R); have HB := Lib.hid (HB.out.trans (U.below HG3.out)); clear U R)
      | (refine step_get rfl 26 _ rfl b3 1 rfl Tryz.underlying26 rfl (.int .i8 z1) (by rw [HR3.out.cell]; rfl) ?_)
      | (refine blk_cell rfl 26 _ _ rfl b3 1 rfl .i8 (k : Int) rfl 27 _ HR3.out (by show 1 < 2; omega) size34 ?_; intro w2 U R; have HR2 := Lib.hid (HR2.out.apart U HD.out); have HR3 := Lib.hid (show Blk _ b3 27 #[.int .i8 (k : Int), .int .i8 (k : Int)] from R); have HB := Lib.hid (HB.out.trans (U.below HG3.out)); clear U R))
     go_roundw
     case rel => exact ⟨k + 1, by omega, by go_num, by rw [H0.out, H1.out]; exact HR3.out, HR2.out, HB.out⟩
     case measure => simp [intOf]; omega
   ·have H0 := Lib.hid (rf0_no (r := r) (k := k) (by rw [Hy.out]; exact g))
    have H1 := Lib.hid (rf1_no (r := r) (k := k) (by rw [Hy.out]; exact g))
    go_wp2_with (refine arr_index rfl 92 5 _ _ rfl 8 .u8 r rfl k rfl hlt Tryz.underlying92 Tryz.underlying5 size5 ?_; rw [Hy.out])
    go_roundw
    case rel => exact ⟨k + 1, by omega, by go_num, by rw [H0.out, H1.out, Hz0.out, Hz1.out]; exact HR3.out, HR2.out, HB.out⟩
    case measure => simp [intOf]; omega
  ·obtain rfl : k = 8 := by omega
   obtain ⟨z0, Hz0⟩ : ∃ z, Hid (rf0 r 8 = z) := ⟨_, Lib.hid rfl⟩
   obtain ⟨z1, Hz1⟩ : ∃ z, Hid (rf1 r 8 = z) := ⟨_, Lib.hid rfl⟩
   rw [Hz0.out, Hz1.out] at HR3
   go_wp2_with (first
    | (refine blk_load rfl 27 _ rfl b3 rfl #[.int .i8 z0, .int .i8 z1] HR3.out _ Tryz.underlying27 rfl size35 ?_)
    | (refine blk_store rfl 27 _ _ rfl b2 rfl #[.int .i8 0, .int .i8 0] #[.int .i8 z0, .int .i8 z1] rfl HR2.out rfl (two_one _ _) size35 ?_; intro w2 U R; have HR2 := Lib.hid R; have HB := Lib.hid (HB.out.trans (U.below HG2.out)); clear U R))
   refine bodyPost_ret (v := .agg #[.int .i8 z0, .int .i8 z1]) (results_blk rfl _ _ _ _ rfl HR2.out Tryz.underlying27 rfl size35 rfl) rfl ⟨by rw [Hz0.out, Hz1.out], HB.out⟩
end Go.Proofs.YtidgfadbdgheiaaGreatDoor
/-
 Contracts of the program's army, a color each.
-/
namespace Go.Proofs.YtidgfadbdgheiaaGreatDoor
open Go.RowKit
set_option linter.unusedVariables false

/-- Behind k files: on the rank h the pieces, on the rank a the pawns of a color. -/
def armyN (p : Nat → Int) (h a c : Nat) (r : Nat → Int) : Nat → Nat → Int
 | 0 => p
 | k + 1 => upd (upd (armyN p h a c r k) (1 + (8 * h + k)) (8 * (c : Int) + r k)) (1 + (8 * a + k)) (8 * (c : Int) + 1)
theorem armyN_zero (p : Nat → Int) (h a c : Nat) (r : Nat → Int) : ∀ k, armyN p h a c r k 0 = p 0
 | 0 => rfl
 | k + 1 => by
  show upd (upd _ _ _) _ _ 0 = _
  rw [upd_other _ _ _ _ (by omega), upd_other _ _ _ _ (by omega)]
  exact armyN_zero p h a c r k
def rookP (p : Nat → Int) (o : Nat) (a b : Int) : Nat → Int := upd (upd p o a) (o + 1) b
theorem over_two (p : Nat → Int) (o : Nat) (a b : Int) : over p o 2 (rookP zeroP o a b) = rookP p o a b := by
 funext j
 unfold over rookP
 by_cases e1 : j = o + 1
 ·subst e1; rw [if_pos (by omega), upd_same, upd_same]
 ·by_cases e0 : j = o
  ·subst e0; rw [if_pos (by omega), upd_other _ _ _ _ e1, upd_same, upd_other _ _ _ _ e1, upd_same]
  ·rw [if_neg (by omega), upd_other _ _ _ _ e1, upd_other _ _ _ _ e0]
/-- A color lined up. -/
def armyP (v : Nat) (p : Nat → Int) (c : Nat) (r : Nat → Int) : Nat → Int :=
 bif casB v then rookP (armyN p (7 * c) (1 + 5 * c) c r 8) (79 + 2 * c) (rf0 r 8) (rf1 r 8) else armyN p (7 * c) (1 + 5 * c) c r 8
theorem rook_val0 (a b : Int) : Value.agg #[.int .i8 a, .int .i8 b] = .agg (partL (rookP zeroP 79 a b) 79 2).toArray := by kernel_rfl
theorem rook_val1 (a b : Int) : Value.agg #[.int .i8 a, .int .i8 b] = .agg (partL (rookP zeroP 81 a b) 81 2).toArray := by kernel_rfl
def Kinds15 (r : Nat → Int) : Prop := ∀ i, i < 8 → ∃ n : Nat, n ≤ 7 ∧ r i = (n : Int)
theorem New.row3 {b c : Nat} {w w' : World} {p : Nat → Int} (h : New b w w') (hr : Row w c p) : Row w' c p := hr.later h.below
set_option maxRecDepth 100000 in
set_option maxHeartbeats 2000000 in
theorem army0_any (v : Nat) (p r : Nat → Int) (w : World) (hv : v ≤ 255) (hp : p 0 = (v : Int)) (hr : Kinds15 r) (hT : TabVar w) :
  Calls Tryz.prog 105 #[.agg (posA p), .int .u8 0, .agg (arrA 8 .u8 r)] w (PosL (armyP v p 0 r) w) := by
 have HT := Lib.hid hT
 have HV := Lib.hid hr
 have HP := Lib.hid hp
 clear hT hr hp
 go_enter Tryz.func105, Tryz.ntmps105
 go_wp2_with (first
  | (refine step_box rfl _ rfl p rfl ?_; intro b3 w1 N R; have HG3 := Lib.hid (Nat.le_of_eq N.at_.symm); have HR3 := Lib.hid R; have HB := Lib.hid N.below; clear N R)
  | (refine blk_box rfl 92 _ rfl (arrA 8 .u8 r) rfl ?_; intro b5 w1 N R; have HD5 := Lib.hid (show b5 ≠ b3 by have := N.at_; have := HR3.out.lt; omega); have HR3 := Lib.hid (N.row3 HR3.out); have HR5 := Lib.hid R; have HB := Lib.hid (below_on HB.out N.below); clear N R)
  | (refine step_alloc rfl rfl ?_; intro b6 w1 N R; have HG6 := Lib.hid (show w.heap.size ≤ b6 by have := N.at_; have := HB.out.size; omega); have HD6 := Lib.hid (show b6 ≠ b3 by have := N.at_; have := HR3.out.lt; omega); have HR3 := Lib.hid (N.row3 HR3.out); have HR5 := Lib.hid (HR5.out.later N.below); have HR6 := Lib.hid R; have HB := Lib.hid (below_on HB.out N.below); clear N R)
  | (refine arr_load rfl 92 _ rfl b5 rfl 8 .u8 r HR5.out _ Tryz.underlying92 rfl size58 ?_))
 go_loopw [14] (fun i wr => ∃ k : Nat, k ≤ 8 ∧ i = .int .i64 (k : Int) ∧ Row wr b3 (armyN p 0 1 0 r k) ∧ Blk wr b5 92 (arrA 8 .u8 r) ∧ Row wr b6 zeroP ∧ Below w.heap.size w wr) (fun i _ => 8 - (intOf i).toNat)
 case atStart => exact ⟨0, by omega, rfl, HR3.out, HR5.out, HR6.out, HB.out⟩
 case round =>
  clear HR3 HR5 HR6 HB
  obtain ⟨k, hk, rfl, h3, h5, h6, hb⟩ := hrel
  have HR3 := Lib.hid h3
  have HR5 := Lib.hid h5
  have HR6 := Lib.hid h6
  have HB := Lib.hid hb
  clear h3 h5 h6 hb
  by_cases hlt : k < 8
  ·obtain ⟨n, hn, hy⟩ := HV.out k hlt
   have Hy := Lib.hid hy
   clear hy
   obtain ⟨s1, Hs1⟩ : ∃ s, Hid (8 * 0 + k = s) := ⟨_, Lib.hid rfl⟩
   obtain ⟨s2, Hs2⟩ : ∃ s, Hid (8 * 1 + k = s) := ⟨_, Lib.hid rfl⟩
   obtain ⟨m1, Hm1⟩ : ∃ s, Hid (8 * 0 + n = s) := ⟨_, Lib.hid rfl⟩
   obtain ⟨m2, Hm2⟩ : ∃ s, Hid (8 * 0 + 1 = s) := ⟨_, Lib.hid rfl⟩
   have l1 : s1 < 64 := by have := Hs1.out; omega
   have l2 : s2 < 64 := by have := Hs2.out; omega
   have HK1 := Lib.hid (kAt_board (Nat.zero_le _) l1)
   have HK2 := Lib.hid (kAt_board (Nat.zero_le _) l2)
   have HN : Hid (armyN p 0 1 0 r (k + 1) = upd (upd (armyN p 0 1 0 r k) (1 + s1) (m1 : Int)) (1 + s2) (m2 : Int)) := Lib.hid (by
    show upd (upd _ _ _) _ _ = _
    have e1 := Hm1.out
    have e2 := Hm2.out
    rw [Hs1.out, Hs2.out, Hy.out, show (8 * ((0 : Nat) : Int) + (n : Int)) = (m1 : Int) by omega, show (8 * ((0 : Nat) : Int) + 1) = (m2 : Int) by omega])
   have l3 : (s1 : Int) < 64 := by omega
   have l4 : (s2 : Int) < 64 := by omega
   go_wp2_with (refine arr_index rfl 92 5 _ _ rfl 8 .u8 r rfl k rfl hlt Tryz.underlying92 Tryz.underlying5 size5 ?_; rw [Hy.out])
   refine (square_any k 0 _ hlt (by omega)).mono ?_; rintro e wn ⟨rfl, rfl⟩; rw [Hs1.out]
   go_wp2_with fail
   refine (man_any 0 n _ (by omega) (by omega)).mono ?_; rintro e wn ⟨rfl, rfl⟩; rw [Hm1.out]
   go_wp2_with (refine step_cell rfl 5 _ _ rfl b3 (1 + s1) rfl .u8 (m1 : Int) rfl _ HR3.out (by omega) HK1.out size5 ?_; intro w2 U R; have HR5 := Lib.hid (HR5.out.apart U HD5.out); have HR6 := Lib.hid (HR6.out.apart U HD6.out); have HR3 := Lib.hid R; have HB := Lib.hid (HB.out.trans (U.below HG3.out)); clear U R)
   refine (square_any k 1 _ hlt (by omega)).mono ?_; rintro e wn ⟨rfl, rfl⟩; rw [Hs2.out]
   go_wp2_with fail
   refine (man_any 0 1 _ (by omega) (by omega)).mono ?_; rintro e wn ⟨rfl, rfl⟩; rw [Hm2.out]
   go_wp2_with (refine step_cell rfl 5 _ _ rfl b3 (1 + s2) rfl .u8 (m2 : Int) rfl _ HR3.out (by omega) HK2.out size5 ?_; intro w2 U R; have HR5 := Lib.hid (HR5.out.apart U HD5.out); have HR6 := Lib.hid (HR6.out.apart U HD6.out); have HR3 := Lib.hid R; have HB := Lib.hid (HB.out.trans (U.below HG3.out)); clear U R)
   go_roundw
   case rel => exact ⟨k + 1, by omega, by go_num, by rw [HN.out]; exact HR3.out, HR5.out, HR6.out, HB.out⟩
   case measure => simp [intOf]; omega
  ·obtain rfl : k = 8 := by omega
   have hc0 := HR3.out.cell 0 (by omega)
   rw [armyN_zero, HP.out, show kAt 0 = .u8 from rfl] at hc0
   obtain ⟨q, Hq⟩ : ∃ q, Hid (armyN p 0 1 0 r 8 = q) := ⟨_, Lib.hid rfl⟩
   rw [Hq.out] at HR3
   go_wp2_with fail
   refine (cas_any v _ hv (HT.out.on HB.out)).mono ?_; rintro e wn ⟨rfl, hb⟩; have HR3 := Lib.hid (HR3.out.later hb); have HR5 := Lib.hid (HR5.out.later hb); have HR6 := Lib.hid (HR6.out.later hb); have HB := Lib.hid (below_on HB.out hb); clear hb hc0
   cases hcas : casB v
   ·have HE := Lib.hid (show armyP v p 0 r = q by unfold armyP; rw [hcas]; exact Hq.out)
    go_wp2_with (first
     | (refine step_load rfl _ rfl b3 rfl q HR3.out ?_)
     | (refine step_store rfl _ _ rfl b6 rfl _ q rfl HR6.out ?_; intro w2 U R; have HR6 := Lib.hid R; have HB := Lib.hid (HB.out.trans (U.below HG6.out)); clear U R))
    refine bodyPost_ret (v := .agg (posA q)) (results_row rfl _ _ _ _ rfl HR6.out) rfl ⟨by rw [HE.out], HB.out⟩
   ·have HE := Lib.hid (show armyP v p 0 r = rookP q 79 (rf0 r 8) (rf1 r 8) by unfold armyP; rw [hcas, ← Hq.out]; rfl)
    obtain ⟨z0, Hz0⟩ : ∃ z, Hid (rf0 r 8 = z) := ⟨_, Lib.hid rfl⟩
    obtain ⟨z1, Hz1⟩ : ∃ z, Hid (rf1 r 8 = z) := ⟨_, Lib.hid rfl⟩
    go_wp2_with (refine arr_load rfl 92 _ rfl b5 rfl 8 .u8 r HR5.out _ Tryz.underlying92 rfl size58 ?_)
    refine (rooks_any r _).mono ?_; rintro e wn ⟨rfl, hb⟩; have HR3 := Lib.hid (HR3.out.later hb); have HR6 := Lib.hid (HR6.out.later hb); have HB := Lib.hid (below_on HB.out hb); clear hb; rw [Hz0.out, Hz1.out]
    go_wp2_with (first
     | (refine step_write rfl 27 _ _ rfl b3 79 2 rfl _ (rookP zeroP 79 z0 z1) (rook_val0 z0 z1) HR3.out (by omega) size35 ?_; intro w2 U R; rw [over_two] at R; have HR6 := Lib.hid (HR6.out.apart U HD6.out); have HR3 := Lib.hid R; have HB := Lib.hid (HB.out.trans (U.below HG3.out)); clear U R)
     | (refine step_load rfl _ rfl b3 rfl (rookP q 79 z0 z1) ?_ ?_; exact HR3.out)
     | (refine step_store rfl _ _ rfl b6 rfl _ (rookP q 79 z0 z1) rfl HR6.out ?_; intro w2 U R; have HR6 := Lib.hid R; have HB := Lib.hid (HB.out.trans (U.below HG6.out)); clear U R))
    refine bodyPost_ret (v := .agg (posA (rookP q 79 z0 z1))) (results_row rfl _ _ _ _ rfl HR6.out) rfl ⟨by rw [HE.out, Hz0.out, Hz1.out], HB.out⟩
set_option maxRecDepth 100000 in
set_option maxHeartbeats 2000000 in
theorem army1_any (v : Nat) (p r : Nat → Int) (w : World) (hv : v ≤ 255) (hp : p 0 = (v : Int)) (hr : Kinds15 r) (hT : TabVar w) :
  Calls Tryz.prog 105 #[.agg (posA p), .int .u8 1, .agg (arrA 8 .u8 r)] w (PosL (armyP v p 1 r) w) := by
 have HT := Lib.hid hT
 have HV := Lib.hid hr
 have HP := Lib.hid hp
 clear hT hr hp
 go_enter Tryz.func105, Tryz.ntmps105
 go_wp2_with (first
  | (refine step_box rfl _ rfl p rfl ?_; intro b3 w1 N R; have HG3 := Lib.hid (Nat.le_of_eq N.at_.symm); have HR3 := Lib.hid R; have HB := Lib.hid N.below; clear N R)
  | (refine blk_box rfl 92 _ rfl (arrA 8 .u8 r) rfl ?_; intro b5 w1 N R; have HD5 := Lib.hid (show b5 ≠ b3 by have := N.at_; have := HR3.out.lt; omega); have HR3 := Lib.hid (N.row3 HR3.out); have HR5 := Lib.hid R; have HB := Lib.hid (below_on HB.out N.below); clear N R)
  | (refine step_alloc rfl rfl ?_; intro b6 w1 N R; have HG6 := Lib.hid (show w.heap.size ≤ b6 by have := N.at_; have := HB.out.size; omega); have HD6 := Lib.hid (show b6 ≠ b3 by have := N.at_; have := HR3.out.lt; omega); have HR3 := Lib.hid (N.row3 HR3.out); have HR5 := Lib.hid (HR5.out.later N.below); have HR6 := Lib.hid R; have HB := Lib.hid (below_on HB.out N.below); clear N R)
  | (refine arr_load rfl 92 _ rfl b5 rfl 8 .u8 r HR5.out _ Tryz.underlying92 rfl size58 ?_))
 go_loopw [14] (fun i wr => ∃ k : Nat, k ≤ 8 ∧ i = .int .i64 (k : Int) ∧ Row wr b3 (armyN p 7 6 1 r k) ∧ Blk wr b5 92 (arrA 8 .u8 r) ∧ Row wr b6 zeroP ∧ Below w.heap.size w wr) (fun i _ => 8 - (intOf i).toNat)
 case atStart => exact ⟨0, by omega, rfl, HR3.out, HR5.out, HR6.out, HB.out⟩
 case round =>
  clear HR3 HR5 HR6 HB
  obtain ⟨k, hk, rfl, h3, h5, h6, hb⟩ := hrel
  have HR3 := Lib.hid h3
  have HR5 := Lib.hid h5
  have HR6 := Lib.hid h6
  have HB := Lib.hid hb
  clear h3 h5 h6 hb
  by_cases hlt : k < 8
  ·obtain ⟨n, hn, hy⟩ := HV.out k hlt
   have Hy := Lib.hid hy
   clear hy
   obtain ⟨s1, Hs1⟩ : ∃ s, Hid (8 * 7 + k = s) := ⟨_, Lib.hid rfl⟩
   obtain ⟨s2, Hs2⟩ : ∃ s, Hid (8 * 6 + k = s) := ⟨_, Lib.hid rfl⟩
   obtain ⟨m1, Hm1⟩ : ∃ s, Hid (8 * 1 + n = s) := ⟨_, Lib.hid rfl⟩
   obtain ⟨m2, Hm2⟩ : ∃ s, Hid (8 * 1 + 1 = s) := ⟨_, Lib.hid rfl⟩
   have l1 : s1 < 64 := by have := Hs1.out; omega
   have l2 : s2 < 64 := by have := Hs2.out; omega
   have HK1 := Lib.hid (kAt_board (Nat.zero_le _) l1)
   have HK2 := Lib.hid (kAt_board (Nat.zero_le _) l2)
   have HN : Hid (armyN p 7 6 1 r (k + 1) = upd (upd (armyN p 7 6 1 r k) (1 + s1) (m1 : Int)) (1 + s2) (m2 : Int)) := Lib.hid (by
    show upd (upd _ _ _) _ _ = _
    have e1 := Hm1.out
    have e2 := Hm2.out
    rw [Hs1.out, Hs2.out, Hy.out, show (8 * ((1 : Nat) : Int) + (n : Int)) = (m1 : Int) by omega, show (8 * ((1 : Nat) : Int) + 1) = (m2 : Int) by omega])
   have l3 : (s1 : Int) < 64 := by omega
   have l4 : (s2 : Int) < 64 := by omega
   go_wp2_with (refine arr_index rfl 92 5 _ _ rfl 8 .u8 r rfl k rfl hlt Tryz.underlying92 Tryz.underlying5 size5 ?_; rw [Hy.out])
   refine (square_any k 7 _ hlt (by omega)).mono ?_; rintro e wn ⟨rfl, rfl⟩; rw [Hs1.out]
   go_wp2_with fail
   refine (man_any 1 n _ (by omega) (by omega)).mono ?_; rintro e wn ⟨rfl, rfl⟩; rw [Hm1.out]
   go_wp2_with (refine step_cell rfl 5 _ _ rfl b3 (1 + s1) rfl .u8 (m1 : Int) rfl _ HR3.out (by omega) HK1.out size5 ?_; intro w2 U R; have HR5 := Lib.hid (HR5.out.apart U HD5.out); have HR6 := Lib.hid (HR6.out.apart U HD6.out); have HR3 := Lib.hid R; have HB := Lib.hid (HB.out.trans (U.below HG3.out)); clear U R)
   refine (square_any k 6 _ hlt (by omega)).mono ?_; rintro e wn ⟨rfl, rfl⟩; rw [Hs2.out]
   go_wp2_with fail
   refine (man_any 1 1 _ (by omega) (by omega)).mono ?_; rintro e wn ⟨rfl, rfl⟩; rw [Hm2.out]
   go_wp2_with (refine step_cell rfl 5 _ _ rfl b3 (1 + s2) rfl .u8 (m2 : Int) rfl _ HR3.out (by omega) HK2.out size5 ?_; intro w2 U R; have HR5 := Lib.hid (HR5.out.apart U HD5.out); have HR6 := Lib.hid (HR6.out.apart U HD6.out); have HR3 := Lib.hid R; have HB := Lib.hid (HB.out.trans (U.below HG3.out)); clear U R)
   go_roundw
   case rel => exact ⟨k + 1, by omega, by go_num, by rw [HN.out]; exact HR3.out, HR5.out, HR6.out, HB.out⟩
   case measure => simp [intOf]; omega
  ·obtain rfl : k = 8 := by omega
   have hc0 := HR3.out.cell 0 (by omega)
   rw [armyN_zero, HP.out, show kAt 0 = .u8 from rfl] at hc0
   obtain ⟨q, Hq⟩ : ∃ q, Hid (armyN p 7 6 1 r 8 = q) := ⟨_, Lib.hid rfl⟩
   rw [Hq.out] at HR3
   go_wp2_with fail
   refine (cas_any v _ hv (HT.out.on HB.out)).mono ?_; rintro e wn ⟨rfl, hb⟩; have HR3 := Lib.hid (HR3.out.later hb); have HR5 := Lib.hid (HR5.out.later hb); have HR6 := Lib.hid (HR6.out.later hb); have HB := Lib.hid (below_on HB.out hb); clear hb hc0
   cases hcas : casB v
   ·have HE := Lib.hid (show armyP v p 1 r = q by unfold armyP; rw [hcas]; exact Hq.out)
    go_wp2_with (first
     | (refine step_load rfl _ rfl b3 rfl q HR3.out ?_)
     | (refine step_store rfl _ _ rfl b6 rfl _ q rfl HR6.out ?_; intro w2 U R; have HR6 := Lib.hid R; have HB := Lib.hid (HB.out.trans (U.below HG6.out)); clear U R))
    refine bodyPost_ret (v := .agg (posA q)) (results_row rfl _ _ _ _ rfl HR6.out) rfl ⟨by rw [HE.out], HB.out⟩
   ·have HE := Lib.hid (show armyP v p 1 r = rookP q 81 (rf0 r 8) (rf1 r 8) by unfold armyP; rw [hcas, ← Hq.out]; rfl)
    obtain ⟨z0, Hz0⟩ : ∃ z, Hid (rf0 r 8 = z) := ⟨_, Lib.hid rfl⟩
    obtain ⟨z1, Hz1⟩ : ∃ z, Hid (rf1 r 8 = z) := ⟨_, Lib.hid rfl⟩
    go_wp2_with (refine arr_load rfl 92 _ rfl b5 rfl 8 .u8 r HR5.out _ Tryz.underlying92 rfl size58 ?_)
    refine (rooks_any r _).mono ?_; rintro e wn ⟨rfl, hb⟩; have HR3 := Lib.hid (HR3.out.later hb); have HR6 := Lib.hid (HR6.out.later hb); have HB := Lib.hid (below_on HB.out hb); clear hb; rw [Hz0.out, Hz1.out]
    go_wp2_with (first
     | (refine step_write rfl 27 _ _ rfl b3 81 2 rfl _ (rookP zeroP 81 z0 z1) (rook_val1 z0 z1) HR3.out (by omega) size35 ?_; intro w2 U R; rw [over_two] at R; have HR6 := Lib.hid (HR6.out.apart U HD6.out); have HR3 := Lib.hid R; have HB := Lib.hid (HB.out.trans (U.below HG3.out)); clear U R)
     | (refine step_load rfl _ rfl b3 rfl (rookP q 81 z0 z1) ?_ ?_; exact HR3.out)
     | (refine step_store rfl _ _ rfl b6 rfl _ (rookP q 81 z0 z1) rfl HR6.out ?_; intro w2 U R; have HR6 := Lib.hid R; have HB := Lib.hid (HB.out.trans (U.below HG6.out)); clear U R))
    refine bodyPost_ret (v := .agg (posA (rookP q 81 z0 z1))) (results_row rfl _ _ _ _ rfl HR6.out) rfl ⟨by rw [HE.out, Hz0.out, Hz1.out], HB.out⟩
end Go.Proofs.YtidgfadbdgheiaaGreatDoor
/-
 Contracts of the program's shuffled, both, Start960.
-/
namespace Go.Proofs.YtidgfadbdgheiaaGreatDoor
open Go.RowKit
set_option linter.unusedVariables false
set_option linter.unusedSimpArgs false
theorem placed_int (r : Nat → Int) (c : Nat) (ci x : Int) (w : World) (hc : c ≤ 8) (he : ci = (c : Int)) : Calls Tryz.prog 148 #[.agg (arrA 8 .u8 r), .int .i64 ci, .int .u8 x] w (RowL (placeR r c x) w) := by
 subst he; exact placed_any r c x w hc
theorem kn_le (k : Nat) (hk : k < 10) : knA k ≤ 8 ∧ knB k ≤ 8 := by
 have key : ∀ k : Fin 10, knA k.val ≤ 8 ∧ knB k.val ≤ 8 := by decide +kernel
 exact key ⟨k, hk⟩
theorem kn_A (k : Nat) {w : World} (h : TabKn w) (hk : k < 10) : w.cell? ⟨2, k * 2, none⟩ = some (.int .i64 ((knA k : Nat) : Int)) := h k hk 0 _ rfl
theorem kn_B (k : Nat) {w : World} (h : TabKn w) (hk : k < 10) : w.cell? ⟨2, k * 2 + 1, none⟩ = some (.int .i64 ((knB k : Nat) : Int)) := h k hk 1 _ rfl
def sh1 (n : Nat) : Nat → Int := upd zeroP (2 * (n % 4) + 1) 3
def sh2 (n : Nat) : Nat → Int := upd (sh1 n) (2 * (n / 4 % 4)) 3
def sh3 (n : Nat) : Nat → Int := placeR (sh2 n) (n / 4 / 4 % 6) 5
def sh4 (n k : Nat) : Nat → Int := placeR (sh3 n) (knB k) 2
def sh5 (n k : Nat) : Nat → Int := placeR (sh4 n k) (knA k) 2
/-- The rooks and the king, in order. -/
def sh6 (n k : Nat) : Nat → Nat → Int
 | 0 => sh5 n k
 | i + 1 => placeR (sh6 n k i) 0 (([4, 6, 4].getD i 0 : Nat) : Int)
theorem sh_all (n : Nat) : sh6 n (n / 4 / 4 / 6) 3 = rowZ n := rfl
theorem three_at (j : Nat) (h : j < 3) : (#[.int .u8 4, .int .u8 6, .int .u8 4] : Array Value)[j]? = some (.int .u8 (([4, 6, 4].getD j 0 : Nat) : Int)) := by
 match j, h with
 | 0, _ => rfl
 | 1, _ => rfl
 | 2, _ => rfl
set_option maxRecDepth 100000 in
set_option maxHeartbeats 2000000 in
theorem shuf_any (n : Nat) (w : World) (hn : n < 960) (hT : TabKn w) : Calls Tryz.prog 104 #[.int .i64 (n : Int)] w (RowL (rowZ n) w) := by
 have HT := Lib.hid hT
 clear hT
 obtain ⟨k, Hk⟩ : ∃ k, Hid (n / 4 / 4 / 6 = k) := ⟨_, Lib.hid rfl⟩
 have hk : k < 10 := by have := Hk.out; omega
 have l1 : (k : Int) < 10 := by omega
 have HE := Lib.hid (show sh6 n k 3 = rowZ n by rw [← Hk.out]; exact sh_all n)
 go_enter Tryz.func104, Tryz.ntmps104
 go_wp2_with (first
  | (refine arr_alloc (op := ⟨some 2, _, _, _, _, _⟩) rfl 92 rfl 8 .u8 zero58 ?_; intro b2 w1 N R; have HG2 := Lib.hid (Nat.le_of_eq N.at_.symm); have HR2 := Lib.hid R; have HB := Lib.hid N.below; clear N R)
  | (refine arr_alloc rfl 92 rfl 8 .u8 zero58 ?_; intro b3 w1 N R; have HG3 := Lib.hid (show w.heap.size ≤ b3 by have := N.at_; have := HB.out.size; omega); have HD23 := Lib.hid (show b2 ≠ b3 by have := N.at_; have := HR2.out.lt; omega); have HR2 := Lib.hid (HR2.out.later N.below); have HR3 := Lib.hid R; have HB := Lib.hid (below_on HB.out N.below); clear N R)
  | (refine arr_cell rfl 5 _ _ rfl b3 (2 * (n % 4) + 1) rfl .u8 3 rfl 92 8 zeroP ?_ (by omega) size5 ?_; exact HR3.out; intro w2 U R; have HR2 := Lib.hid (HR2.out.apart U HD23.out); have HR3 := Lib.hid (show Blk _ b3 92 (arrA 8 .u8 (sh1 n)) from R); have HB := Lib.hid (HB.out.trans (U.below HG3.out)); clear U R)
  | (refine arr_cell rfl 5 _ _ rfl b3 (2 * (n / 4 % 4)) rfl .u8 3 rfl 92 8 (sh1 n) ?_ (by omega) size5 ?_; exact HR3.out; intro w2 U R; have HR2 := Lib.hid (HR2.out.apart U HD23.out); have HR3 := Lib.hid (show Blk _ b3 92 (arrA 8 .u8 (sh2 n)) from R); have HB := Lib.hid (HB.out.trans (U.below HG3.out)); clear U R)
  | (refine arr_load rfl 92 _ rfl b3 rfl 8 .u8 (sh2 n) ?_ _ Tryz.underlying92 rfl size58 ?_; exact HR3.out))
 refine (placed_int (sh2 n) (n / 4 / 4 % 6) _ 5 _ (by omega) (by omega)).mono ?_; rintro e wn ⟨rfl, hb⟩; have HR2 := Lib.hid (HR2.out.later hb); have HR3 := Lib.hid (HR3.out.later hb); have HB := Lib.hid (below_on HB.out hb); clear hb
 go_wp2_with (refine arr_store rfl 92 _ _ rfl b3 rfl 8 .u8 (sh2 n) (sh3 n) rfl ?_ size58 ?_; exact HR3.out; intro w2 U R; have HR2 := Lib.hid (HR2.out.apart U HD23.out); have HR3 := Lib.hid R; have HB := Lib.hid (HB.out.trans (U.below HG3.out)); clear U R)
 rw [show ((n : Int) / 4 / 4 / 6) = (k : Int) by have := Hk.out; omega]
 refine late_begin 6 (by kernel_rfl) ?_
 refine late_take 0 (by kernel_rfl) (by kernel_rfl) (by kernel_rfl) (by kernel_rfl) (by kernel_rfl) (fun _ _ d _ _ h => by cases d <;> exact h) (fun o ho => ?_)
 simp only [List.getElem?_toArray, List.getElem?_cons_zero, List.getElem?_cons_succ, Option.some.injEq] at ho; subst ho
 refine ⟨_, Or.inl ⟨by kernel_rfl, fun w' hl => Or.inl (run_blk 92 _ rfl _ rfl (arrA 8 .u8 (sh3 n)) (HR3.out.later hl) _ Tryz.underlying92 rfl (by rw [arrA_size]; exact size58))⟩, ?_⟩
 simp only [Act.put, List.setIfInBounds_toArray, List.set_cons_zero, List.set_cons_succ]
 refine late_take 1 (by kernel_rfl) (by kernel_rfl) (by kernel_rfl) (by kernel_rfl) (by kernel_rfl) (fun _ _ d _ _ h => by cases d <;> exact h) (fun o ho => ?_)
 simp only [List.getElem?_toArray, List.getElem?_cons_zero, List.getElem?_cons_succ, Option.some.injEq] at ho; subst ho
 apply Exists.intro
 refine ⟨Or.inl ⟨by kernel_rfl, fun w' hl => Or.inl ?_⟩, ?_⟩
 ·(go_simp; try with_reducible rfl)
 simp only [Act.put, List.setIfInBounds_toArray, List.set_cons_zero, List.set_cons_succ]
 refine late_take 2 (by kernel_rfl) (by kernel_rfl) (by kernel_rfl) (by kernel_rfl) (by kernel_rfl) (fun _ _ d _ _ h => by cases d <;> exact h) (fun o ho => ?_)
 simp only [List.getElem?_toArray, List.getElem?_cons_zero, List.getElem?_cons_succ, Option.some.injEq] at ho; subst ho
 apply Exists.intro
 refine ⟨Or.inl ⟨by kernel_rfl, fun w' hl => Or.inl ?_⟩, ?_⟩
 ·(go_simp; try with_reducible rfl)
 simp only [Act.put, List.setIfInBounds_toArray, List.set_cons_zero, List.set_cons_succ]
 refine late_take 3 (by kernel_rfl) (by kernel_rfl) (by kernel_rfl) (by kernel_rfl) (by kernel_rfl) (fun _ _ d _ _ h => by cases d <;> exact h) (fun o ho => ?_)
 simp only [List.getElem?_toArray, List.getElem?_cons_zero, List.getElem?_cons_succ, Option.some.injEq] at ho; subst ho
 apply Exists.intro
 refine ⟨Or.inl ⟨by kernel_rfl, fun w' hl => Or.inl ?_⟩, ?_⟩
 ·(go_simp; try with_reducible rfl)
 simp only [Act.put, List.setIfInBounds_toArray, List.set_cons_zero, List.set_cons_succ]
 refine late_take 4 (by kernel_rfl) (by kernel_rfl) (by kernel_rfl) (by kernel_rfl) (by kernel_rfl) (fun _ _ d _ _ h => by cases d <;> exact h) (fun o ho => ?_)
 simp only [List.getElem?_toArray, List.getElem?_cons_zero, List.getElem?_cons_succ, Option.some.injEq] at ho; subst ho
 refine ⟨_, Or.inl ⟨by kernel_rfl, fun w' hl => Or.inl (run_get 3 _ rfl 2 (k * 2 + 1) rfl Tryz.underlying3 rfl (.int .i64 ((knB k : Nat) : Int)) (kn_B k ((HT.out.on HB.out).on hl) hk))⟩, ?_⟩
 simp only [Act.put, List.setIfInBounds_toArray, List.set_cons_zero, List.set_cons_succ]
 refine late_one 5 (by kernel_rfl) (by kernel_rfl) (fun o ho => ?_)
 simp only [List.getElem?_toArray, List.getElem?_cons_zero, List.getElem?_cons_succ, Option.some.injEq] at ho; subst ho
 refine ⟨by kernel_rfl, fun wn hl K hK => ?_⟩
 have HR2 := Lib.hid (HR2.out.later hl); have HR3 := Lib.hid (HR3.out.later hl); have HB := Lib.hid (below_on HB.out hl); clear hl
 refine wp_enter _ _ (by go_simp; exact ⟨rfl, rfl⟩) ?_
 refine (placed_int (sh3 n) (knB k) _ 2 _ (kn_le k hk).2 rfl).mono ?_; rintro e wm ⟨rfl, hb⟩; refine ⟨_, rfl, ?_⟩
 refine hK.out _ _ hb ?_
 have HR2 := Lib.hid (HR2.out.later hb); have HR3 := Lib.hid (HR3.out.later hb); have HB := Lib.hid (below_on HB.out hb); clear hb
 clear hK K
 simp only [Act.put, List.setIfInBounds_toArray, List.set_cons_zero, List.set_cons_succ]
 refine late_last 6 (by kernel_rfl) (by kernel_rfl) (by kernel_rfl) (fun o ho => ?_)
 simp only [List.getElem?_toArray, List.getElem?_cons_zero, List.getElem?_cons_succ, Option.some.injEq] at ho; subst ho
 refine ⟨by kernel_rfl, fun wn hl K hK => ?_⟩
 have HR2 := Lib.hid (HR2.out.later hl); have HR3 := Lib.hid (HR3.out.later hl); have HB := Lib.hid (below_on HB.out hl); clear hl
 refine late_arr 92 _ _ rfl b3 rfl 8 .u8 (sh3 n) (sh4 n k) rfl HR3.out size58 ?_; intro wm U R
 have HR2 := Lib.hid (HR2.out.apart U HD23.out)
 have HR3 := Lib.hid R; have HB := Lib.hid (HB.out.trans (U.below HG3.out)); clear U R
 refine hK.out _ _ ?_
 clear hK K
 simp only [Act.put, List.setIfInBounds_toArray, List.set_cons_zero, List.set_cons_succ]
 go_wp2_with fail
 refine late_begin 6 (by kernel_rfl) ?_
 refine late_take 0 (by kernel_rfl) (by kernel_rfl) (by kernel_rfl) (by kernel_rfl) (by kernel_rfl) (fun _ _ d _ _ h => by cases d <;> exact h) (fun o ho => ?_)
 simp only [List.getElem?_toArray, List.getElem?_cons_zero, List.getElem?_cons_succ, Option.some.injEq] at ho; subst ho
 refine ⟨_, Or.inl ⟨by kernel_rfl, fun w' hl => Or.inl (run_blk 92 _ rfl _ rfl (arrA 8 .u8 (sh4 n k)) (HR3.out.later hl) _ Tryz.underlying92 rfl (by rw [arrA_size]; exact size58))⟩, ?_⟩
 simp only [Act.put, List.setIfInBounds_toArray, List.set_cons_zero, List.set_cons_succ]
 refine late_take 1 (by kernel_rfl) (by kernel_rfl) (by kernel_rfl) (by kernel_rfl) (by kernel_rfl) (fun _ _ d _ _ h => by cases d <;> exact h) (fun o ho => ?_)
 simp only [List.getElem?_toArray, List.getElem?_cons_zero, List.getElem?_cons_succ, Option.some.injEq] at ho; subst ho
 apply Exists.intro
 refine ⟨Or.inl ⟨by kernel_rfl, fun w' hl => Or.inl ?_⟩, ?_⟩
 ·(go_simp; try with_reducible rfl)
 simp only [Act.put, List.setIfInBounds_toArray, List.set_cons_zero, List.set_cons_succ]
 refine late_take 2 (by kernel_rfl) (by kernel_rfl) (by kernel_rfl) (by kernel_rfl) (by kernel_rfl) (fun _ _ d _ _ h => by cases d <;> exact h) (fun o ho => ?_)
 simp only [List.getElem?_toArray, List.getElem?_cons_zero, List.getElem?_cons_succ, Option.some.injEq] at ho; subst ho
 apply Exists.intro
 refine ⟨Or.inl ⟨by kernel_rfl, fun w' hl => Or.inl ?_⟩, ?_⟩
 ·(go_simp; try with_reducible rfl)
 simp only [Act.put, List.setIfInBounds_toArray, List.set_cons_zero, List.set_cons_succ]
 refine late_take 3 (by kernel_rfl) (by kernel_rfl) (by kernel_rfl) (by kernel_rfl) (by kernel_rfl) (fun _ _ d _ _ h => by cases d <;> exact h) (fun o ho => ?_)
 simp only [List.getElem?_toArray, List.getElem?_cons_zero, List.getElem?_cons_succ, Option.some.injEq] at ho; subst ho
 apply Exists.intro
 refine ⟨Or.inl ⟨by kernel_rfl, fun w' hl => Or.inl ?_⟩, ?_⟩
 ·(go_simp; try with_reducible rfl)
 simp only [Act.put, List.setIfInBounds_toArray, List.set_cons_zero, List.set_cons_succ]
 refine late_take 4 (by kernel_rfl) (by kernel_rfl) (by kernel_rfl) (by kernel_rfl) (by kernel_rfl) (fun _ _ d _ _ h => by cases d <;> exact h) (fun o ho => ?_)
 simp only [List.getElem?_toArray, List.getElem?_cons_zero, List.getElem?_cons_succ, Option.some.injEq] at ho; subst ho
 refine ⟨_, Or.inl ⟨by kernel_rfl, fun w' hl => Or.inl (run_get 3 _ rfl 2 (k * 2) rfl Tryz.underlying3 rfl (.int .i64 ((knA k : Nat) : Int)) (kn_A k ((HT.out.on HB.out).on hl) hk))⟩, ?_⟩
 simp only [Act.put, List.setIfInBounds_toArray, List.set_cons_zero, List.set_cons_succ]
 refine late_one 5 (by kernel_rfl) (by kernel_rfl) (fun o ho => ?_)
 simp only [List.getElem?_toArray, List.getElem?_cons_zero, List.getElem?_cons_succ, Option.some.injEq] at ho; subst ho
 refine ⟨by kernel_rfl, fun wn hl K hK => ?_⟩
 have HR2 := Lib.hid (HR2.out.later hl); have HR3 := Lib.hid (HR3.out.later hl); have HB := Lib.hid (below_on HB.out hl); clear hl
 refine wp_enter _ _ (by go_simp; exact ⟨rfl, rfl⟩) ?_
 refine (placed_int (sh4 n k) (knA k) _ 2 _ (kn_le k hk).1 rfl).mono ?_; rintro e wm ⟨rfl, hb⟩; refine ⟨_, rfl, ?_⟩
 refine hK.out _ _ hb ?_
 have HR2 := Lib.hid (HR2.out.later hb); have HR3 := Lib.hid (HR3.out.later hb); have HB := Lib.hid (below_on HB.out hb); clear hb
 clear hK K
 simp only [Act.put, List.setIfInBounds_toArray, List.set_cons_zero, List.set_cons_succ]
 refine late_last 6 (by kernel_rfl) (by kernel_rfl) (by kernel_rfl) (fun o ho => ?_)
 simp only [List.getElem?_toArray, List.getElem?_cons_zero, List.getElem?_cons_succ, Option.some.injEq] at ho; subst ho
 refine ⟨by kernel_rfl, fun wn hl K hK => ?_⟩
 have HR2 := Lib.hid (HR2.out.later hl); have HR3 := Lib.hid (HR3.out.later hl); have HB := Lib.hid (below_on HB.out hl); clear hl
 refine late_arr 92 _ _ rfl b3 rfl 8 .u8 (sh4 n k) (sh5 n k) rfl HR3.out size58 ?_; intro wm U R
 have HR2 := Lib.hid (HR2.out.apart U HD23.out)
 have HR3 := Lib.hid R; have HB := Lib.hid (HB.out.trans (U.below HG3.out)); clear U R
 refine hK.out _ _ ?_
 clear hK K
 simp only [Act.put, List.setIfInBounds_toArray, List.set_cons_zero, List.set_cons_succ]
 go_wp2_with fail
 go_loopw [38] (fun i wr => ∃ j : Nat, j ≤ 3 ∧ i = .int .i64 (j : Int) ∧ Blk wr b3 92 (arrA 8 .u8 (sh6 n k j)) ∧ Blk wr b2 92 (arrA 8 .u8 zeroP) ∧ Below w.heap.size w wr) (fun i _ => 3 - (intOf i).toNat)
 case atStart => exact ⟨0, by omega, rfl, HR3.out, HR2.out, HB.out⟩
 case round =>
  clear HR3 HR2 HB
  obtain ⟨j, hj, rfl, h3, h2, hb⟩ := hrel
  have HR3 := Lib.hid h3
  have HR2 := Lib.hid h2
  have HB := Lib.hid hb
  clear h3 h2 hb
  by_cases hlt : j < 3
  ·obtain ⟨p, Hp⟩ : ∃ p, Hid (sh6 n k j = p) := ⟨_, Lib.hid rfl⟩
   obtain ⟨x, Hx⟩ : ∃ x : Int, Hid ((([4, 6, 4].getD j 0 : Nat) : Int) = x) := ⟨_, Lib.hid rfl⟩
   have HN := Lib.hid (show sh6 n k (j + 1) = placeR p 0 x by rw [← Hp.out, ← Hx.out]; rfl)
   rw [Hp.out] at HR3
   have HI := Lib.hid (three_at j hlt)
   go_wp2_with (first
    | (refine step_index rfl 142 5 _ _ rfl 3 #[.int .u8 4, .int .u8 6, .int .u8 4] rfl .i64 j rfl hlt Tryz.underlying142 Tryz.underlying5 rfl size5 (.int .u8 x) (by rw [← Hx.out]; exact HI.out) ?_)
    | (refine arr_load rfl 92 _ rfl b3 rfl 8 .u8 p ?_ _ Tryz.underlying92 rfl size58 ?_; exact HR3.out))
   refine (placed_int p 0 _ x _ (by omega) rfl).mono ?_; rintro e wn ⟨rfl, hb⟩; have HR2 := Lib.hid (HR2.out.later hb); have HR3 := Lib.hid (HR3.out.later hb); have HB := Lib.hid (below_on HB.out hb); clear hb
   go_wp2_with (refine arr_store rfl 92 _ _ rfl b3 rfl 8 .u8 p (placeR p 0 x) rfl ?_ size58 ?_; exact HR3.out; intro w2 U R; have HR2 := Lib.hid (HR2.out.apart U HD23.out); have HR3 := Lib.hid R; have HB := Lib.hid (HB.out.trans (U.below HG3.out)); clear U R)
   go_roundw
   case rel => exact ⟨j + 1, by omega, by go_num, by rw [HN.out]; exact HR3.out, HR2.out, HB.out⟩
   case measure => simp [intOf]; omega
  ·obtain rfl : j = 3 := by omega
   rw [HE.out] at HR3
   obtain ⟨p, Hp⟩ : ∃ p, Hid (rowZ n = p) := ⟨_, Lib.hid rfl⟩
   rw [Hp.out] at HR3
   go_wp2_with (first
    | (refine arr_load rfl 92 _ rfl b3 rfl 8 .u8 p ?_ _ Tryz.underlying92 rfl size58 ?_; exact HR3.out)
    | (refine arr_store rfl 92 _ _ rfl b2 rfl 8 .u8 zeroP p rfl ?_ size58 ?_; exact HR2.out; intro w2 U R; have HR2 := Lib.hid R; have HB := Lib.hid (HB.out.trans (U.below HG2.out)); clear U R))
   refine bodyPost_ret (v := .agg (arrA 8 .u8 p)) (results_arr rfl _ _ _ _ rfl HR2.out) rfl ⟨by rw [Hp.out], HB.out⟩
theorem armyP_zero (v : Nat) (p : Nat → Int) (c : Nat) (r : Nat → Int) : armyP v p c r 0 = p 0 := by
 unfold armyP
 cases casB v
 ·exact armyN_zero _ _ _ _ _ _
 ·show rookP _ _ _ _ 0 = _
  unfold rookP
  rw [upd_other _ _ _ _ (by omega), upd_other _ _ _ _ (by omega)]
  exact armyN_zero _ _ _ _ _ _
/-- Both colors lined up. -/
def bothP (v : Nat) (r : Nat → Int) : Nat → Int := armyP v (armyP v (bareP v) 0 r) 1 r
set_option maxRecDepth 100000 in
set_option maxHeartbeats 2000000 in
theorem both_any (v : Nat) (r : Nat → Int) (w : World) (hv : v ≤ 255) (hr : Kinds15 r) (hT : TabVar w) : Calls Tryz.prog 57 #[.int .u8 (v : Int), .agg (arrA 8 .u8 r)] w (PosL (bothP v r) w) := by
 have HT := Lib.hid hT
 have HV := Lib.hid hr
 clear hT hr
 go_enter Tryz.func57, Tryz.ntmps57
 go_wp2_with (first
  | (refine blk_box rfl 92 _ rfl (arrA 8 .u8 r) rfl ?_; intro b3 w1 N R; have HR3 := Lib.hid R; have HB := Lib.hid N.below; clear N R)
  | (refine step_alloc rfl rfl ?_; intro b4 w1 N R; have HG4 := Lib.hid (show w.heap.size ≤ b4 by have := N.at_; have := HB.out.size; omega); have HR3 := Lib.hid (HR3.out.later N.below); have HR4 := Lib.hid R; have HB := Lib.hid (below_on HB.out N.below); clear N R))
 refine late_begin 6 (by kernel_rfl) ?_
 refine late_take 0 (by kernel_rfl) (by kernel_rfl) (by kernel_rfl) (by kernel_rfl) (by kernel_rfl) (fun _ _ d _ _ h => by cases d <;> exact h) (fun o ho => ?_)
 simp only [List.getElem?_toArray, List.getElem?_cons_zero, List.getElem?_cons_succ, Option.some.injEq] at ho; subst ho
 apply Exists.intro
 refine ⟨Or.inl ⟨by kernel_rfl, fun w' hl => Or.inl ?_⟩, ?_⟩
 ·(go_simp; try with_reducible rfl)
 simp only [Act.put, List.setIfInBounds_toArray, List.set_cons_zero, List.set_cons_succ]
 refine late_take 2 (by kernel_rfl) (by kernel_rfl) (by kernel_rfl) (by kernel_rfl) (by kernel_rfl) (fun _ _ d _ _ h => by cases d <;> exact h) (fun o ho => ?_)
 simp only [List.getElem?_toArray, List.getElem?_cons_zero, List.getElem?_cons_succ, Option.some.injEq] at ho; subst ho
 refine ⟨_, Or.inl ⟨by kernel_rfl, fun w' hl => Or.inl (run_blk 92 _ rfl _ rfl (arrA 8 .u8 r) (HR3.out.later hl) _ Tryz.underlying92 rfl (by rw [arrA_size]; exact size58))⟩, ?_⟩
 simp only [Act.put, List.setIfInBounds_toArray, List.set_cons_zero, List.set_cons_succ]
 refine late_take 4 (by kernel_rfl) (by kernel_rfl) (by kernel_rfl) (by kernel_rfl) (by kernel_rfl) (fun _ _ d _ _ h => by cases d <;> exact h) (fun o ho => ?_)
 simp only [List.getElem?_toArray, List.getElem?_cons_zero, List.getElem?_cons_succ, Option.some.injEq] at ho; subst ho
 refine ⟨_, Or.inl ⟨by kernel_rfl, fun w' hl => Or.inl (run_blk 92 _ rfl _ rfl (arrA 8 .u8 r) (HR3.out.later hl) _ Tryz.underlying92 rfl (by rw [arrA_size]; exact size58))⟩, ?_⟩
 simp only [Act.put, List.setIfInBounds_toArray, List.set_cons_zero, List.set_cons_succ]
 refine late_one 1 (by kernel_rfl) (by kernel_rfl) (fun o ho => ?_)
 simp only [List.getElem?_toArray, List.getElem?_cons_zero, List.getElem?_cons_succ, Option.some.injEq] at ho; subst ho
 refine ⟨by kernel_rfl, fun wn hl K hK => ?_⟩
 have HR3 := Lib.hid (HR3.out.later hl); have HR4 := Lib.hid (HR4.out.later hl); have HB := Lib.hid (below_on HB.out hl); clear hl
 refine wp_enter _ _ (by go_simp; exact ⟨rfl, rfl⟩) ?_
 refine (bare_any (v : Int) _).mono ?_; rintro e wm ⟨rfl, hb⟩; refine ⟨_, rfl, ?_⟩
 refine hK.out _ _ hb ?_
 have HR3 := Lib.hid (HR3.out.later hb); have HR4 := Lib.hid (HR4.out.later hb); have HB := Lib.hid (below_on HB.out hb); clear hb
 clear hK K
 simp only [Act.put, List.setIfInBounds_toArray, List.set_cons_zero, List.set_cons_succ]
 refine late_one 3 (by kernel_rfl) (by kernel_rfl) (fun o ho => ?_)
 simp only [List.getElem?_toArray, List.getElem?_cons_zero, List.getElem?_cons_succ, Option.some.injEq] at ho; subst ho
 refine ⟨by kernel_rfl, fun wn hl K hK => ?_⟩
 have HR3 := Lib.hid (HR3.out.later hl); have HR4 := Lib.hid (HR4.out.later hl); have HB := Lib.hid (below_on HB.out hl); clear hl
 refine wp_enter _ _ (by go_simp; exact ⟨rfl, rfl⟩) ?_
 refine (army0_any v (bareP v) r _ hv rfl HV.out (HT.out.on HB.out)).mono ?_; rintro e wm ⟨rfl, hb⟩; refine ⟨_, rfl, ?_⟩
 refine hK.out _ _ hb ?_
 have HR3 := Lib.hid (HR3.out.later hb); have HR4 := Lib.hid (HR4.out.later hb); have HB := Lib.hid (below_on HB.out hb); clear hb
 clear hK K
 simp only [Act.put, List.setIfInBounds_toArray, List.set_cons_zero, List.set_cons_succ]
 refine late_one 5 (by kernel_rfl) (by kernel_rfl) (fun o ho => ?_)
 simp only [List.getElem?_toArray, List.getElem?_cons_zero, List.getElem?_cons_succ, Option.some.injEq] at ho; subst ho
 refine ⟨by kernel_rfl, fun wn hl K hK => ?_⟩
 have HR3 := Lib.hid (HR3.out.later hl); have HR4 := Lib.hid (HR4.out.later hl); have HB := Lib.hid (below_on HB.out hl); clear hl
 refine wp_enter _ _ (by go_simp; exact ⟨rfl, rfl⟩) ?_
 refine (army1_any v (armyP v (bareP v) 0 r) r _ hv (armyP_zero _ _ _ _) HV.out (HT.out.on HB.out)).mono ?_; rintro e wm ⟨rfl, hb⟩; refine ⟨_, rfl, ?_⟩
 refine hK.out _ _ hb ?_
 have HR3 := Lib.hid (HR3.out.later hb); have HR4 := Lib.hid (HR4.out.later hb); have HB := Lib.hid (below_on HB.out hb); clear hb
 clear hK K
 simp only [Act.put, List.setIfInBounds_toArray, List.set_cons_zero, List.set_cons_succ]
 refine late_last 6 (by kernel_rfl) (by kernel_rfl) (by kernel_rfl) (fun o ho => ?_)
 simp only [List.getElem?_toArray, List.getElem?_cons_zero, List.getElem?_cons_succ, Option.some.injEq] at ho; subst ho
 refine ⟨by kernel_rfl, fun wn hl K hK => ?_⟩
 have HR3 := Lib.hid (HR3.out.later hl); have HR4 := Lib.hid (HR4.out.later hl); have HB := Lib.hid (below_on HB.out hl); clear hl
 refine late_whole _ _ rfl b4 rfl zeroP (bothP v r) rfl HR4.out ?_; intro wm U R
 have HR4 := Lib.hid R; have HB := Lib.hid (HB.out.trans (U.below HG4.out)); clear U R
 refine hK.out _ _ ?_
 clear hK K
 simp only [Act.put, List.setIfInBounds_toArray, List.set_cons_zero, List.set_cons_succ]
 go_wp2_with fail
 obtain ⟨q, Hq⟩ : ∃ q, Hid (bothP v r = q) := ⟨_, Lib.hid rfl⟩
 rw [Hq.out] at HR4
 refine bodyPost_ret (v := .agg (posA q)) (results_row rfl _ _ _ _ rfl HR4.out) rfl ⟨by rw [Hq.out], HB.out⟩
/-- A position and a yes or no. -/
def PosB (q : Nat → Int) (b : Bool) (w : World) (e : Ending) (w' : World) : Prop := e = .returned (.tuple #[.agg (posA q), .bool b]) ∧ Below w.heap.size w w'
theorem results_two {fn : Func} {i j : Tmp} (h : fn.results = #[.cell i 31, .tmp j]) (tmps : Array Value) (w : World) (b : Nat) (p : Nat → Int) (x : Value) (hp : tmps.getD i undef = .pointer (some ⟨b, 0, none⟩)) (hx : tmps.getD j undef = x) (hr : Row w b p) :
  (results fn tmps).run Tryz.prog w = .ok (.tuple #[.agg (posA p), x]) w := by
 have hl := run_loadVar_row w b 31 31 (posA p) (0, 0) _ hr Tryz.underlying31 rfl (by rw [posA_size]; exact size31)
 have hp' : tmps[i]?.getD undef = .pointer (some ⟨b, 0, none⟩) := by simpa using hp
 have hx' : tmps[j]?.getD undef = x := by simpa using hx
 simp [results, h, hp', hx', asAddr, hl]
theorem kinds_row (n : Nat) (hn : n < 960) : Kinds15 (rowZ n) := fun i hi => by
 refine ⟨(rowL n).getD i 0, ?_, (rowZ_rep n).at_ i hi⟩
 have key : ∀ n : Fin 960, ((rowL n.val).all fun x => Nat.ble x 7) = true := by decide +kernel
 have := List.all_eq_true.1 (key ⟨n, hn⟩)
 have hl : i < (rowL n).length := by rw [(rowZ_rep n).len]; exact hi
 have h2 := this ((rowL n)[i]) (List.getElem_mem hl)
 rw [List.getD_eq_getElem?_getD, List.getElem?_eq_getElem hl]
 simpa using h2
/-- The first position of a number of chess960. -/
def posN (n : Nat) : Nat → Int := bothP 1 (rowZ n)
set_option maxRecDepth 100000 in
set_option maxHeartbeats 2000000 in
theorem start960_any (n : Nat) (w : World) (hn : n < 960) (hT : TabVar w) (hK : TabKn w) : Calls Tryz.prog 54 #[.int .i64 (n : Int)] w (PosB (posN n) true w) := by
 have HT := Lib.hid hT
 have HK := Lib.hid hK
 clear hT hK
 have g0 : decide ((n : Int) < 0) = false := decide_eq_false (by omega)
 have g1 : decide ((960 : Int) ≤ (n : Int)) = false := decide_eq_false (by omega)
 have HP := Lib.hid (kinds_row n hn)
 go_enter Tryz.func54, Tryz.ntmps54
 go_wp2_with (refine step_alloc rfl rfl ?_; intro b2 w1 N R; have HG2 := Lib.hid (Nat.le_of_eq N.at_.symm); have HR2 := Lib.hid R; have HB := Lib.hid N.below; clear N R)
 refine (shuf_any n _ hn (HK.out.on HB.out)).mono ?_; rintro e wn ⟨rfl, hb⟩; have HR2 := Lib.hid (HR2.out.later hb); have HB := Lib.hid (below_on HB.out hb); clear hb
 obtain ⟨r, Hr⟩ : ∃ r, Hid (rowZ n = r) := ⟨_, Lib.hid rfl⟩
 have HQ := Lib.hid (show posN n = bothP 1 r by unfold posN; rw [Hr.out])
 rw [Hr.out] at HP
 rw [Hr.out]
 go_wp2_with fail
 refine (both_any 1 r _ (by omega) HP.out (HT.out.on HB.out)).mono ?_; rintro e wn ⟨rfl, hb⟩; have HR2 := Lib.hid (HR2.out.later hb); have HB := Lib.hid (below_on HB.out hb); clear hb
 obtain ⟨q, Hq⟩ : ∃ q, Hid (bothP 1 r = q) := ⟨_, Lib.hid rfl⟩
 rw [Hq.out]
 go_wp2_with (refine step_store rfl _ _ rfl b2 rfl zeroP q rfl ?_ ?_; exact HR2.out; intro w2 U R; have HR2 := Lib.hid R; have HB := Lib.hid (HB.out.trans (U.below HG2.out)); clear U R)
 refine bodyPost_ret (v := .tuple #[.agg (posA q), .bool true]) (results_two rfl _ _ _ _ _ rfl rfl HR2.out) rfl ⟨by rw [HQ.out, Hq.out], HB.out⟩
end Go.Proofs.YtidgfadbdgheiaaGreatDoor
/-
 Contracts of the program's horde, race.
-/
namespace Go.Proofs.YtidgfadbdgheiaaGreatDoor
open Go.RowKit
set_option linter.unusedVariables false
set_option linter.unusedSimpArgs false
theorem square_int (f r : Nat) (fi ri : Int) (w : World) (hf : f < 8) (hr : r < 8) (ef : fi = (f : Int)) (er : ri = (r : Int)) : Calls Tryz.prog 107 #[.int .i64 fi, .int .i64 ri] w (IntE ((8 * r + f : Nat) : Int) w) := by
 subst ef; subst er; exact square_any f r w hf hr
theorem man_int (c k : Nat) (ci ki : Int) (w : World) (hc : c ≤ 1) (hk : k ≤ 15) (ec : ci = (c : Int)) (ek : ki = (k : Int)) : Calls Tryz.prog 108 #[.int .u8 ci, .int .u8 ki] w (U8E ((8 * c + k : Nat) : Int) w) := by
 subst ec; subst ek; exact man_any c k w hc hk
theorem kinds_ch : Kinds15 chR := fun i hi => ⟨[4, 2, 3, 5, 6, 3, 2, 4].getD i 0, by
 have key : ∀ i : Fin 8, [4, 2, 3, 5, 6, 3, 2, 4].getD i.val 0 ≤ 7 := by decide +kernel
 exact key ⟨i, hi⟩, rfl⟩
def hoN (p : Nat → Int) : Nat → Nat → Int
 | 0 => p
 | k + 1 => upd (hoN p k) (1 + k) 1
def hoF (j : Nat) : Nat := [1, 2, 5, 6].getD j 0
def hoM (p : Nat → Int) : Nat → Nat → Int
 | 0 => p
 | j + 1 => upd (hoM p j) (1 + (32 + hoF j)) 1
/-- The first position of horde. -/
def hoP : Nat → Int := hoM (hoN (armyP 7 (bareP 7) 1 chR) 32) 4
theorem ho_at (j : Nat) (h : j < 4) : (#[.int .i64 1, .int .i64 2, .int .i64 5, .int .i64 6] : Array Value)[j]? = some (.int .i64 ((hoF j : Nat) : Int)) := by
 match j, h with
 | 0, _ => rfl
 | 1, _ => rfl
 | 2, _ => rfl
 | 3, _ => rfl
theorem hoF_lt (j : Nat) (h : j < 4) : hoF j < 8 := by
 have key : ∀ i : Fin 4, hoF i.val < 8 := by decide +kernel
 exact key ⟨j, h⟩
theorem size67 : (Tryz.prog.info? 3).map (·.size) = some 1 := by kernel_rfl
set_option maxRecDepth 100000 in
set_option maxHeartbeats 2000000 in
theorem horde_any (w : World) (hT : TabVar w) : Calls Tryz.prog 55 #[] w (PosL hoP w) := by
 have HT := Lib.hid hT
 clear hT
 go_enter Tryz.func55, Tryz.ntmps55
 go_wp2_with (refine step_alloc rfl rfl ?_; intro b0 w1 N R; have HG0 := Lib.hid (Nat.le_of_eq N.at_.symm); have HR0 := Lib.hid R; have HB := Lib.hid N.below; clear N R)
 refine (bare_any 7 _).mono ?_; rintro e wn ⟨rfl, hb⟩; have HR0 := Lib.hid (HR0.out.later hb); have HB := Lib.hid (below_on HB.out hb); clear hb
 obtain ⟨pb, Hpb⟩ : ∃ q, Hid (bareP 7 = q) := ⟨_, Lib.hid rfl⟩
 have hp0 := Lib.hid (show pb 0 = ((7 : Nat) : Int) by rw [← Hpb.out]; rfl)
 rw [Hpb.out]
 go_wp2_with fail
 refine (chess_any _).mono ?_; rintro e wn ⟨rfl, hb⟩; have HR0 := Lib.hid (HR0.out.later hb); have HB := Lib.hid (below_on HB.out hb); clear hb
 obtain ⟨rc, Hrc⟩ : ∃ q, Hid (chR = q) := ⟨_, Lib.hid rfl⟩
 have HV := Lib.hid (show Kinds15 rc by rw [← Hrc.out]; exact kinds_ch)
 rw [Hrc.out]
 go_wp2_with fail
 refine (army1_any 7 pb rc _ (by omega) hp0.out HV.out (HT.out.on HB.out)).mono ?_; rintro e wn ⟨rfl, hb⟩; have HR0 := Lib.hid (HR0.out.later hb); have HB := Lib.hid (below_on HB.out hb); clear hb
 obtain ⟨pa, Hpa⟩ : ∃ q, Hid (armyP 7 pb 1 rc = q) := ⟨_, Lib.hid rfl⟩
 have HE := Lib.hid (show hoP = hoM (hoN pa 32) 4 by unfold hoP; rw [Hpb.out, Hrc.out, Hpa.out])
 rw [Hpa.out]
 go_wp2_with (first
  | (refine step_alloc rfl rfl ?_; intro b1 w1 N R; have HG1 := Lib.hid (show w.heap.size ≤ b1 by have := N.at_; have := HB.out.size; omega); have HD := Lib.hid (show b0 ≠ b1 by have := N.at_; have := HR0.out.lt; omega); have HR0 := Lib.hid (HR0.out.later N.below); have HR1 := Lib.hid R; have HB := Lib.hid (below_on HB.out N.below); clear N R)
  | (refine step_store rfl _ _ rfl b1 rfl zeroP pa rfl ?_ ?_; exact HR1.out; intro w2 U R; have HR0 := Lib.hid (HR0.out.apart U HD.out); have HR1 := Lib.hid R; have HB := Lib.hid (HB.out.trans (U.below HG1.out)); clear U R))
 refine (square_int 0 4 0 4 _ (by omega) (by omega) rfl rfl).mono ?_; rintro e wn ⟨rfl, rfl⟩
 go_wp2_with fail
 go_loopw [9] (fun i wr => ∃ k : Nat, k ≤ 32 ∧ i = .int .i64 (k : Int) ∧ Row wr b1 (hoN pa k) ∧ Row wr b0 zeroP ∧ Below w.heap.size w wr) (fun i _ => 32 - (intOf i).toNat)
 case atStart => exact ⟨0, by omega, rfl, HR1.out, HR0.out, HB.out⟩
 case round =>
  clear HR1 HR0 HB
  obtain ⟨k, hk, rfl, h1, h0, hb⟩ := hrel
  have HR1 := Lib.hid h1
  have HR0 := Lib.hid h0
  have HB := Lib.hid hb
  clear h1 h0 hb
  by_cases hlt : k < 32
  ·have g0 : decide ((k : Int) < 32) = true := decide_eq_true (by omega)
   obtain ⟨p, Hp⟩ : ∃ q, Hid (hoN pa k = q) := ⟨_, Lib.hid rfl⟩
   have HN := Lib.hid (show hoN pa (k + 1) = upd p (1 + k) 1 by rw [← Hp.out]; rfl)
   rw [Hp.out] at HR1
   have HK := Lib.hid (kAt_board (Nat.zero_le _) (show k < 64 by omega))
   go_wp2_with fail
   refine (man_int 0 1 0 1 _ (by omega) (by omega) rfl rfl).mono ?_; rintro e wn ⟨rfl, rfl⟩
   go_wp2_with (refine step_cell rfl 5 _ _ rfl b1 (1 + k) rfl .u8 1 rfl p ?_ (by omega) HK.out size5 ?_; exact HR1.out; intro w2 U R; have HR0 := Lib.hid (HR0.out.apart U HD.out); have HR1 := Lib.hid R; have HB := Lib.hid (HB.out.trans (U.below HG1.out)); clear U R)
   go_roundw
   case rel => exact ⟨k + 1, by omega, by go_num, by rw [HN.out]; exact HR1.out, HR0.out, HB.out⟩
   case measure => simp [intOf]; omega
  ·obtain rfl : k = 32 := by omega
   obtain ⟨ph, Hph⟩ : ∃ q, Hid (hoN pa 32 = q) := ⟨_, Lib.hid rfl⟩
   have HE := Lib.hid (show hoP = hoM ph 4 by rw [HE.out, Hph.out])
   rw [Hph.out] at HR1
   rw [show ((32 : Nat) : Int) = (32 : Int) from rfl]
   go_wp2_with fail
   go_loopw [18] (fun i wr => ∃ j : Nat, j ≤ 4 ∧ i = .int .i64 (j : Int) ∧ Row wr b1 (hoM ph j) ∧ Row wr b0 zeroP ∧ Below w.heap.size w wr) (fun i _ => 4 - (intOf i).toNat)
   case atStart => exact ⟨0, by omega, rfl, HR1.out, HR0.out, HB.out⟩
   case round =>
    clear HR1 HR0 HB
    obtain ⟨j, hj, rfl, h1, h0, hb⟩ := hrel
    have HR1 := Lib.hid h1
    have HR0 := Lib.hid h0
    have HB := Lib.hid hb
    clear h1 h0 hb
    by_cases hlt : j < 4
    ·obtain ⟨p, Hp⟩ : ∃ q, Hid (hoM ph j = q) := ⟨_, Lib.hid rfl⟩
     obtain ⟨f, Hf⟩ : ∃ f, Hid (hoF j = f) := ⟨_, Lib.hid rfl⟩
     have lf : f < 8 := by rw [← Hf.out]; exact hoF_lt j hlt
     have HI := Lib.hid (ho_at j hlt)
     have HN := Lib.hid (show hoM ph (j + 1) = upd p (1 + (32 + f)) 1 by rw [← Hp.out, ← Hf.out]; rfl)
     rw [Hp.out] at HR1
     rw [Hf.out] at HI
     obtain ⟨s, Hs⟩ : ∃ s, Hid (8 * 4 + f = s) := ⟨_, Lib.hid rfl⟩
     have ls : s < 64 := by have := Hs.out; omega
     have ls' : (s : Int) < 64 := by omega
     have HK := Lib.hid (kAt_board (Nat.zero_le _) ls)
     have HS := Lib.hid (show s = 32 + f from Hs.out.symm)
     go_wp2_with (refine step_index rfl 127 3 _ _ rfl 4 #[.int .i64 1, .int .i64 2, .int .i64 5, .int .i64 6] rfl .i64 j rfl hlt Tryz.underlying127 Tryz.underlying3 rfl size67 (.int .i64 (f : Int)) HI.out ?_)
     refine (square_int f 4 _ 4 _ lf (by omega) rfl rfl).mono ?_; rintro e wn ⟨rfl, rfl⟩; rw [Hs.out]
     go_wp2_with fail
     refine (man_int 0 1 0 1 _ (by omega) (by omega) rfl rfl).mono ?_; rintro e wn ⟨rfl, rfl⟩
     go_wp2_with (refine step_cell rfl 5 _ _ rfl b1 (1 + s) rfl .u8 1 rfl p ?_ (by omega) HK.out size5 ?_; exact HR1.out; intro w2 U R; have HR0 := Lib.hid (HR0.out.apart U HD.out); have HR1 := Lib.hid R; have HB := Lib.hid (HB.out.trans (U.below HG1.out)); clear U R)
     go_roundw
     case rel => exact ⟨j + 1, by omega, by go_num, by rw [HN.out, ← HS.out]; exact HR1.out, HR0.out, HB.out⟩
     case measure => simp [intOf]; omega
    ·obtain rfl : j = 4 := by omega
     obtain ⟨q, Hq⟩ : ∃ q, Hid (hoM ph 4 = q) := ⟨_, Lib.hid rfl⟩
     rw [Hq.out] at HR1
     go_wp2_with (first
      | (refine step_load rfl _ rfl b1 rfl q ?_ ?_; exact HR1.out)
      | (refine step_store rfl _ _ rfl b0 rfl zeroP q rfl ?_ ?_; exact HR0.out; intro w2 U R; have HR0 := Lib.hid R; have HB := Lib.hid (HB.out.trans (U.below HG0.out)); clear U R))
     refine bodyPost_ret (v := .agg (posA q)) (results_row rfl _ _ _ _ rfl HR0.out) rfl ⟨by rw [HE.out, Hq.out], HB.out⟩
end Go.Proofs.YtidgfadbdgheiaaGreatDoor
/-
 Contract of the program's race.
-/
namespace Go.Proofs.YtidgfadbdgheiaaGreatDoor
open Go.RowKit
set_option linter.unusedVariables false
set_option linter.unusedSimpArgs false
def haR (k : Nat) : Nat → Int := fun j => (([2, 3, 4, 5 + k].getD j 0 : Nat) : Int)
def haN (k j : Nat) : Nat := [2, 3, 4, 5 + k].getD j 0
def raJ (p : Nat → Int) (k : Nat) : Nat → Nat → Int
 | 0 => p
 | j + 1 => upd (upd (raJ p k j) (1 + (8 * k + (4 + j))) ((haN k j : Nat) : Int)) (1 + (8 * k + (3 - j))) ((8 + haN k j : Nat) : Int)
def raK (p : Nat → Int) : Nat → Nat → Int
 | 0 => p
 | k + 1 => raJ (raK p k) k 4
/-- The first position of racing. -/
def raP : Nat → Int := raK (bareP 8) 2
def haA : Array Value := #[.int .u8 2, .int .u8 3, .int .u8 4, .int .u8 5, .int .u8 2, .int .u8 3, .int .u8 4, .int .u8 6]
theorem ha0 : haA.extract (0 * 4) (0 * 4 + 4) = arrA 4 .u8 (haR 0) := by kernel_rfl
theorem ha1 : haA.extract (1 * 4) (1 * 4 + 4) = arrA 4 .u8 (haR 1) := by kernel_rfl
theorem ha_half (k : Nat) (h : k < 2) : haA.extract (k * 4) (k * 4 + 4) = arrA 4 .u8 (haR k) := by
 match k, h with
 | 0, _ => exact ha0
 | 1, _ => exact ha1
theorem ha_le (k j : Nat) (hk : k < 2) (hj : j < 4) : haN k j ≤ 7 := by
 have key : ∀ k : Fin 2, ∀ j : Fin 4, haN k.val j.val ≤ 7 := by decide +kernel
 exact key ⟨k, hk⟩ ⟨j, hj⟩
theorem size69 : (Tryz.prog.info? 129).map (·.size) = some 8 := by kernel_rfl
theorem size68 : (Tryz.prog.info? 128).map (·.size) = some 4 := by kernel_rfl
theorem zero69 : (Tryz.prog.info? 129).map (fun i => (i.zero, i.size)) = some (some (.agg (arrA 8 .u8 zeroP)), (arrA 8 .u8 zeroP).size) := by kernel_rfl
theorem zero68 : (Tryz.prog.info? 128).map (fun i => (i.zero, i.size)) = some (some (.agg (arrA 4 .u8 zeroP)), 4) := by kernel_rfl
theorem ha_one : haA.all (·.oneCell') = true := by simp [haA, Value.oneCell']
set_option maxRecDepth 100000 in
set_option maxHeartbeats 2000000 in
theorem race_any (w : World) : Calls Tryz.prog 56 #[] w (PosL raP w) := by
 go_enter Tryz.func56, Tryz.ntmps56
 go_wp2_with (refine step_alloc rfl rfl ?_; intro b0 w1 N R; have HG0 := Lib.hid (Nat.le_of_eq N.at_.symm); have HR0 := Lib.hid R; have HB := Lib.hid N.below; clear N R)
 refine (bare_any 8 _).mono ?_; rintro e wn ⟨rfl, hb⟩; have HR0 := Lib.hid (HR0.out.later hb); have HB := Lib.hid (below_on HB.out hb); clear hb
 obtain ⟨pb, Hpb⟩ : ∃ q, Hid (bareP 8 = q) := ⟨_, Lib.hid rfl⟩
 have HE := Lib.hid (show raP = raK pb 2 by unfold raP; rw [Hpb.out])
 rw [Hpb.out]
 go_wp2_with (first
  | (refine step_alloc (op := ⟨some 1, _, _, _, _, _⟩) rfl rfl ?_; intro b1 w1 N R; have HG1 := Lib.hid (show w.heap.size ≤ b1 by have := N.at_; have := HB.out.size; omega); have HD := Lib.hid (show b0 ≠ b1 by have := N.at_; have := HR0.out.lt; omega); have HR0 := Lib.hid (HR0.out.later N.below); have HR1 := Lib.hid R; have HB := Lib.hid (below_on HB.out N.below); clear N R)
  | (refine step_store rfl _ _ rfl b1 rfl zeroP pb rfl ?_ ?_; exact HR1.out; intro w2 U R; have HR0 := Lib.hid (HR0.out.apart U HD.out); have HR1 := Lib.hid R; have HB := Lib.hid (HB.out.trans (U.below HG1.out)); clear U R)
  | (refine blk_alloc rfl 129 rfl (arrA 8 .u8 zeroP) zero69 ?_; intro b2 w1 N R; have HG2 := Lib.hid (show w.heap.size ≤ b2 by have := N.at_; have := HB.out.size; omega); have HD02 := Lib.hid (show b0 ≠ b2 by have := N.at_; have := HR0.out.lt; omega); have HD12 := Lib.hid (show b1 ≠ b2 by have := N.at_; have := HR1.out.lt; omega); have HR0 := Lib.hid (HR0.out.later N.below); have HR1 := Lib.hid (HR1.out.later N.below); have HR2 := Lib.hid R; have HB := Lib.hid (below_on HB.out N.below); clear N R)
  | (refine blk_store rfl 129 _ _ rfl b2 rfl (arrA 8 .u8 zeroP) haA rfl ?_ (by rw [arrA_size]; rfl) ha_one size69 ?_; exact HR2.out; intro w2 U R; have HR0 := Lib.hid (HR0.out.apart U HD02.out); have HR1 := Lib.hid (HR1.out.apart U HD12.out); have HR2 := Lib.hid R; have HB := Lib.hid (HB.out.trans (U.below HG2.out)); clear U R)
  | (refine blk_load rfl 129 _ rfl b2 rfl haA ?_ _ Tryz.underlying129 rfl size69 ?_; exact HR2.out))
 go_loopw [12] (fun i wr => ∃ k : Nat, k ≤ 2 ∧ i = .int .i64 (k : Int) ∧ Row wr b1 (raK pb k) ∧ Row wr b0 zeroP ∧ Below w.heap.size w wr) (fun i _ => 2 - (intOf i).toNat)
 case atStart => exact ⟨0, by omega, rfl, HR1.out, HR0.out, HB.out⟩
 case round =>
  clear HR1 HR0 HR2 HB
  obtain ⟨k, hk, rfl, h1, h0, hb⟩ := hrel
  have HR1 := Lib.hid h1
  have HR0 := Lib.hid h0
  have HB := Lib.hid hb
  clear h1 h0 hb
  by_cases hlt : k < 2
  ·obtain ⟨p0, Hp0⟩ : ∃ q, Hid (raK pb k = q) := ⟨_, Lib.hid rfl⟩
   have HN0 := Lib.hid (show raK pb (k + 1) = raJ p0 k 4 by rw [← Hp0.out]; rfl)
   rw [Hp0.out] at HR1
   have HH := Lib.hid (ha_half k hlt)
   go_wp2_with (first
    | (refine step_indexA rfl 129 128 _ _ rfl 2 4 haA rfl .i64 k rfl hlt Tryz.underlying129 Tryz.underlying128 rfl size68 (arrA 4 .u8 (haR k)) HH.out ?_)
    | (refine arr_alloc rfl 128 rfl 4 .u8 zero68 ?_; intro b4 w1 N R; have HG4 := Lib.hid (show w.heap.size ≤ b4 by have := N.at_; have := HB.out.size; omega); have HD04 := Lib.hid (show b0 ≠ b4 by have := N.at_; have := HR0.out.lt; omega); have HD14 := Lib.hid (show b1 ≠ b4 by have := N.at_; have := HR1.out.lt; omega); have HR0 := Lib.hid (HR0.out.later N.below); have HR1 := Lib.hid (HR1.out.later N.below); have HR4 := Lib.hid R; have HB := Lib.hid (below_on HB.out N.below); clear N R)
    | (refine arr_store rfl 128 _ _ rfl b4 rfl 4 .u8 zeroP (haR k) rfl ?_ size68 ?_; exact HR4.out; intro w2 U R; have HR0 := Lib.hid (HR0.out.apart U HD04.out); have HR1 := Lib.hid (HR1.out.apart U HD14.out); have HR4 := Lib.hid R; have HB := Lib.hid (HB.out.trans (U.below HG4.out)); clear U R)
    | (refine arr_load rfl 128 _ rfl b4 rfl 4 .u8 (haR k) ?_ _ Tryz.underlying128 rfl size68 ?_; exact HR4.out))
   go_loopw [17] (fun i wr => ∃ j : Nat, j ≤ 4 ∧ i = .int .i64 (j : Int) ∧ Row wr b1 (raJ p0 k j) ∧ Row wr b0 zeroP ∧ Below w.heap.size w wr) (fun i _ => 4 - (intOf i).toNat)
   case atStart => exact ⟨0, by omega, rfl, HR1.out, HR0.out, HB.out⟩
   case round =>
    clear HR1 HR0 HR4 HB
    obtain ⟨j, hj, rfl, h1, h0, hb⟩ := hrel
    have HR1 := Lib.hid h1
    have HR0 := Lib.hid h0
    have HB := Lib.hid hb
    clear h1 h0 hb
    by_cases hlt' : j < 4
    ·obtain ⟨p, Hp⟩ : ∃ q, Hid (raJ p0 k j = q) := ⟨_, Lib.hid rfl⟩
     obtain ⟨x, Hx⟩ : ∃ x, Hid (haN k j = x) := ⟨_, Lib.hid rfl⟩
     have lx : x ≤ 7 := by rw [← Hx.out]; exact ha_le k j hlt hlt'
     have HY := Lib.hid (show haR k j = (x : Int) by rw [← Hx.out]; rfl)
     obtain ⟨s1, Hs1⟩ : ∃ s, Hid (8 * k + (4 + j) = s) := ⟨_, Lib.hid rfl⟩
     obtain ⟨s2, Hs2⟩ : ∃ s, Hid (8 * k + (3 - j) = s) := ⟨_, Lib.hid rfl⟩
     obtain ⟨m1, Hm1⟩ : ∃ s, Hid (8 * 0 + x = s) := ⟨_, Lib.hid rfl⟩
     obtain ⟨m2, Hm2⟩ : ∃ s, Hid (8 * 1 + x = s) := ⟨_, Lib.hid rfl⟩
     have l1 : s1 < 64 := by have := Hs1.out; omega
     have l2 : s2 < 64 := by have := Hs2.out; omega
     have l3 : (s1 : Int) < 64 := by omega
     have l4 : (s2 : Int) < 64 := by omega
     have HK1 := Lib.hid (kAt_board (Nat.zero_le _) l1)
     have HK2 := Lib.hid (kAt_board (Nat.zero_le _) l2)
     have HN : Hid (raJ p0 k (j + 1) = upd (upd p (1 + s1) (m1 : Int)) (1 + s2) (m2 : Int)) := Lib.hid (by
      show upd (upd _ _ _) _ _ = _
      rw [Hp.out, Hs1.out, Hs2.out, Hx.out, show x = m1 by have := Hm1.out; omega, show 8 + m1 = m2 by have := Hm1.out; have := Hm2.out; omega])
     rw [Hp.out] at HR1
     go_wp2_with (refine arr_index rfl 128 5 _ _ rfl 4 .u8 (haR k) rfl j rfl hlt' Tryz.underlying128 Tryz.underlying5 size5 ?_; rw [HY.out])
     refine (square_int (4 + j) k _ _ _ (by omega) (by omega) (by omega) rfl).mono ?_; rintro e wn ⟨rfl, rfl⟩; rw [Hs1.out]
     go_wp2_with fail
     refine (man_int 0 x 0 _ _ (by omega) (by omega) rfl rfl).mono ?_; rintro e wn ⟨rfl, rfl⟩; rw [Hm1.out]
     go_wp2_with (refine step_cell rfl 5 _ _ rfl b1 (1 + s1) rfl .u8 (m1 : Int) rfl p ?_ (by omega) HK1.out size5 ?_; exact HR1.out; intro w2 U R; have HR0 := Lib.hid (HR0.out.apart U HD.out); have HR1 := Lib.hid R; have HB := Lib.hid (HB.out.trans (U.below HG1.out)); clear U R)
     refine (square_int (3 - j) k _ _ _ (by omega) (by omega) (by omega) rfl).mono ?_; rintro e wn ⟨rfl, rfl⟩; rw [Hs2.out]
     go_wp2_with fail
     refine (man_int 1 x 1 _ _ (by omega) (by omega) rfl rfl).mono ?_; rintro e wn ⟨rfl, rfl⟩; rw [Hm2.out]
     go_wp2_with (refine step_cell rfl 5 _ _ rfl b1 (1 + s2) rfl .u8 (m2 : Int) rfl (upd p (1 + s1) (m1 : Int)) ?_ (by omega) HK2.out size5 ?_; exact HR1.out; intro w2 U R; have HR0 := Lib.hid (HR0.out.apart U HD.out); have HR1 := Lib.hid R; have HB := Lib.hid (HB.out.trans (U.below HG1.out)); clear U R)
     go_roundw
     case rel => exact ⟨j + 1, by omega, by go_num, by rw [HN.out]; exact HR1.out, HR0.out, HB.out⟩
     case measure => simp [intOf]; omega
    ·obtain rfl : j = 4 := by omega
     rw [← HN0.out] at HR1
     go_wp2_with fail
     go_roundw
     case rel => exact ⟨k + 1, by omega, by go_num, HR1.out, HR0.out, HB.out⟩
     case measure => simp [intOf]; omega
  ·obtain rfl : k = 2 := by omega
   obtain ⟨q, Hq⟩ : ∃ q, Hid (raK pb 2 = q) := ⟨_, Lib.hid rfl⟩
   rw [Hq.out] at HR1
   go_wp2_with (first
    | (refine step_load rfl _ rfl b1 rfl q ?_ ?_; exact HR1.out)
    | (refine step_store rfl _ _ rfl b0 rfl zeroP q rfl ?_ ?_; exact HR0.out; intro w2 U R; have HR0 := Lib.hid R; have HB := Lib.hid (HB.out.trans (U.below HG0.out)); clear U R))
   refine bodyPost_ret (v := .agg (posA q)) (results_row rfl _ _ _ _ rfl HR0.out) rfl ⟨by rw [HE.out, Hq.out], HB.out⟩
end Go.Proofs.YtidgfadbdgheiaaGreatDoor
/-
 Contract of the program's Start.
-/
namespace Go.Proofs.YtidgfadbdgheiaaGreatDoor
open Go.RowKit
set_option linter.unusedVariables false
set_option linter.unusedSimpArgs false
/-- The first position of a variant. -/
def startP (v : Nat) : Nat → Int := if 9 ≤ v then zeroP else if v = 1 then posN 518 else if v = 7 then hoP else if v = 8 then raP else bothP v chR
theorem start_no (v : Nat) (h : 9 ≤ v) : startP v = zeroP := if_pos h
theorem start_1 : startP 1 = posN 518 := rfl
theorem start_7 : startP 7 = hoP := rfl
theorem start_8 : startP 8 = raP := rfl
theorem start_rest {v : Nat} (h : v < 9) (h1 : v ≠ 1) (h7 : v ≠ 7) (h8 : v ≠ 8) : startP v = bothP v chR := by
 unfold startP
 rw [if_neg (by omega), if_neg h1, if_neg h7, if_neg h8]
set_option maxRecDepth 100000 in
set_option maxHeartbeats 2000000 in
theorem start_out (w : World) (v : Nat) (h : 9 ≤ v) : Calls Tryz.prog 23 #[.int .u8 (v : Int)] w (PosB (startP v) false w) := by
 have HE := Lib.hid (start_no v h)
 have g0 : decide ((9 : Int) ≤ (v : Int)) = true := decide_eq_true (by omega)
 go_enter Tryz.func23, Tryz.ntmps23
 go_wp2_with (first
  | (refine step_alloc rfl rfl ?_; intro b2 w1 N R; have HG2 := Lib.hid (Nat.le_of_eq N.at_.symm); have HR2 := Lib.hid R; have HB := Lib.hid N.below; clear N R)
  | (refine step_build rfl 31 _ rfl (posA zeroP) (by kernel_rfl) ?_)
  | (refine step_store rfl _ _ rfl b2 rfl zeroP zeroP rfl ?_ ?_; exact HR2.out; intro w2 U R; have HR2 := Lib.hid R; have HB := Lib.hid (HB.out.trans (U.below HG2.out)); clear U R))
 refine bodyPost_ret (v := .tuple #[.agg (posA zeroP), .bool false]) (results_two rfl _ _ _ _ _ rfl rfl HR2.out) rfl ⟨by rw [HE.out], HB.out⟩
set_option maxRecDepth 100000 in
set_option maxHeartbeats 2000000 in
theorem start_at1 (w : World) (hT : TabVar w) (hK : TabKn w) : Calls Tryz.prog 23 #[.int .u8 1] w (PosB (startP 1) true w) := by
 have HT := Lib.hid hT
 have HK := Lib.hid hK
 clear hT hK
 obtain ⟨q, Hq⟩ : ∃ q, Hid (posN 518 = q) := ⟨_, Lib.hid rfl⟩
 have HE := Lib.hid (show startP 1 = q by rw [start_1, Hq.out])
 go_enter Tryz.func23, Tryz.ntmps23
 go_wp2_with (refine step_alloc rfl rfl ?_; intro b2 w1 N R; have HG2 := Lib.hid (Nat.le_of_eq N.at_.symm); have HR2 := Lib.hid R; have HB := Lib.hid N.below; clear N R)
 refine (start960_any 518 _ (by omega) (HT.out.on HB.out) (HK.out.on HB.out)).mono ?_; rintro e wn ⟨rfl, hb⟩; have HR2 := Lib.hid (HR2.out.later hb); have HB := Lib.hid (below_on HB.out hb); clear hb; rw [Hq.out]
 go_wp2_with (refine step_store rfl _ _ rfl b2 rfl zeroP q rfl ?_ ?_; exact HR2.out; intro w2 U R; have HR2 := Lib.hid R; have HB := Lib.hid (HB.out.trans (U.below HG2.out)); clear U R)
 refine bodyPost_ret (v := .tuple #[.agg (posA q), .bool true]) (results_two rfl _ _ _ _ _ rfl rfl HR2.out) rfl ⟨by rw [HE.out], HB.out⟩
set_option maxRecDepth 100000 in
set_option maxHeartbeats 2000000 in
theorem start_at7 (w : World) (hT : TabVar w) : Calls Tryz.prog 23 #[.int .u8 7] w (PosB (startP 7) true w) := by
 have HT := Lib.hid hT
 clear hT
 obtain ⟨q, Hq⟩ : ∃ q, Hid (hoP = q) := ⟨_, Lib.hid rfl⟩
 have HE := Lib.hid (show startP 7 = q by rw [start_7, Hq.out])
 go_enter Tryz.func23, Tryz.ntmps23
 go_wp2_with (refine step_alloc rfl rfl ?_; intro b2 w1 N R; have HG2 := Lib.hid (Nat.le_of_eq N.at_.symm); have HR2 := Lib.hid R; have HB := Lib.hid N.below; clear N R)
 refine (horde_any _ (HT.out.on HB.out)).mono ?_; rintro e wn ⟨rfl, hb⟩; have HR2 := Lib.hid (HR2.out.later hb); have HB := Lib.hid (below_on HB.out hb); clear hb; rw [Hq.out]
 go_wp2_with (refine step_store rfl _ _ rfl b2 rfl zeroP q rfl ?_ ?_; exact HR2.out; intro w2 U R; have HR2 := Lib.hid R; have HB := Lib.hid (HB.out.trans (U.below HG2.out)); clear U R)
 refine bodyPost_ret (v := .tuple #[.agg (posA q), .bool true]) (results_two rfl _ _ _ _ _ rfl rfl HR2.out) rfl ⟨by rw [HE.out], HB.out⟩
set_option maxRecDepth 100000 in
set_option maxHeartbeats 2000000 in
theorem start_at8 (w : World) : Calls Tryz.prog 23 #[.int .u8 8] w (PosB (startP 8) true w) := by
 obtain ⟨q, Hq⟩ : ∃ q, Hid (raP = q) := ⟨_, Lib.hid rfl⟩
 have HE := Lib.hid (show startP 8 = q by rw [start_8, Hq.out])
 go_enter Tryz.func23, Tryz.ntmps23
 go_wp2_with (refine step_alloc rfl rfl ?_; intro b2 w1 N R; have HG2 := Lib.hid (Nat.le_of_eq N.at_.symm); have HR2 := Lib.hid R; have HB := Lib.hid N.below; clear N R)
 refine (race_any _).mono ?_; rintro e wn ⟨rfl, hb⟩; have HR2 := Lib.hid (HR2.out.later hb); have HB := Lib.hid (below_on HB.out hb); clear hb; rw [Hq.out]
 go_wp2_with (refine step_store rfl _ _ rfl b2 rfl zeroP q rfl ?_ ?_; exact HR2.out; intro w2 U R; have HR2 := Lib.hid R; have HB := Lib.hid (HB.out.trans (U.below HG2.out)); clear U R)
 refine bodyPost_ret (v := .tuple #[.agg (posA q), .bool true]) (results_two rfl _ _ _ _ _ rfl rfl HR2.out) rfl ⟨by rw [HE.out], HB.out⟩
set_option maxRecDepth 100000 in
set_option maxHeartbeats 2000000 in
theorem start_of (w : World) (v : Nat) (h : v < 9) (h1 : v ≠ 1) (h7 : v ≠ 7) (h8 : v ≠ 8) (hT : TabVar w) : Calls Tryz.prog 23 #[.int .u8 (v : Int)] w (PosB (startP v) true w) := by
 have HT := Lib.hid hT
 clear hT
 obtain ⟨q, Hq⟩ : ∃ q, Hid (bothP v chR = q) := ⟨_, Lib.hid rfl⟩
 have HE := Lib.hid (show startP v = q by rw [start_rest h h1 h7 h8, Hq.out])
 have g0 : decide ((9 : Int) ≤ (v : Int)) = false := decide_eq_false (by omega)
 have g1 : ((v : Int) == 1) = false := by simp; omega
 have g7 : ((v : Int) == 7) = false := by simp; omega
 have g8 : ((v : Int) == 8) = false := by simp; omega
 clear h1 h7 h8
 go_enter Tryz.func23, Tryz.ntmps23
 go_wp2_with (refine step_alloc rfl rfl ?_; intro b2 w1 N R; have HG2 := Lib.hid (Nat.le_of_eq N.at_.symm); have HR2 := Lib.hid R; have HB := Lib.hid N.below; clear N R)
 refine (chess_any _).mono ?_; rintro e wn ⟨rfl, hb⟩; have HR2 := Lib.hid (HR2.out.later hb); have HB := Lib.hid (below_on HB.out hb); clear hb
 obtain ⟨rc, Hrc⟩ : ∃ q, Hid (chR = q) := ⟨_, Lib.hid rfl⟩
 have HV := Lib.hid (show Kinds15 rc by rw [← Hrc.out]; exact kinds_ch)
 rw [Hrc.out] at Hq
 rw [Hrc.out]
 go_wp2_with fail
 refine (both_any v rc _ (by omega) HV.out (HT.out.on HB.out)).mono ?_; rintro e wn ⟨rfl, hb⟩; have HR2 := Lib.hid (HR2.out.later hb); have HB := Lib.hid (below_on HB.out hb); clear hb; rw [Hq.out]
 go_wp2_with (refine step_store rfl _ _ rfl b2 rfl zeroP q rfl ?_ ?_; exact HR2.out; intro w2 U R; have HR2 := Lib.hid R; have HB := Lib.hid (HB.out.trans (U.below HG2.out)); clear U R)
 refine bodyPost_ret (v := .tuple #[.agg (posA q), .bool true]) (results_two rfl _ _ _ _ _ rfl rfl HR2.out) rfl ⟨by rw [HE.out], HB.out⟩
theorem start_any (v : Nat) (w : World) (hv : v ≤ 255) (hT : TabVar w) (hK : TabKn w) : Calls Tryz.prog 23 #[.int .u8 (v : Int)] w (PosB (startP v) (decide (v < 9)) w) := by
 by_cases h : v < 9
 ·rw [decide_eq_true h]
  by_cases h1 : v = 1
  ·subst h1; exact start_at1 w hT hK
  ·by_cases h7 : v = 7
   ·subst h7; exact start_at7 w hT
   ·by_cases h8 : v = 8
    ·subst h8; exact start_at8 w
    ·exact start_of w v h h1 h7 h8 hT
 ·rw [decide_eq_false h]; exact start_out w v (by omega)
end Go.Proofs.YtidgfadbdgheiaaGreatDoor
