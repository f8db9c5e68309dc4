/-
 Several texts in one: RuRow, RuPlace, RuArmy, RuShuf, RuHorde, RuRace, RuStart.
-/
import Derived.Test.YteblmnbagbdiiaaGreatDoorVaBaseB
import Derived.IntWalk
/-
 The document's row of each number of chess960, as bytes, against the program's: told over all 960 numbers by the kernel.
-/
set_option maxRecDepth 100000
set_option maxHeartbeats 2000000
namespace Go.Proofs.YteblmnbagbdiiaaGreatDoor
set_option linter.unusedVariables false
/-! The document's row of a number, as bytes. -/
def rf0 (r : Nat → Int) : Nat → Int
 | 0 => -1
 | k + 1 => bif r k == 4 then (k : Int) else rf0 r k
def rf1 (r : Nat → Int) : Nat → Int
 | 0 => -1
 | k + 1 => bif (r k == 4) && (rf1 r k == -1) then (k : Int) else rf1 r k
def ofL (l : List Nat) : Nat → Int := fun i => ((l.getD i 0 : Nat) : Int)
theorem Rep.of {r : Nat → Int} {l : List Nat} (h : Rep r l) (i : Nat) (hi : i < 8) : r i = ofL l i := h.at_ i hi
end Go.Proofs.YteblmnbagbdiiaaGreatDoor
/-
 Contracts of the program's placed and rookFiles.
-/
namespace Go.Proofs.YteblmnbagbdiiaaGreatDoor
open Go.RowKit
set_option linter.unusedVariables false

theorem size35 : (Tryz.prog.info? 27).map (·.size) = some 2 := by kernel_rfl
theorem size34 : (Tryz.prog.info? 26).map (·.size) = some 1 := by kernel_rfl
theorem zero35 : (Tryz.prog.info? 27).map (fun i => (i.zero, i.size)) = some (some (.agg #[.int .i8 0, .int .i8 0]), 2) := by kernel_rfl
theorem two_one (a b : Int) : (#[Value.int .i8 a, .int .i8 b] : Array Value).all (·.oneCell') = true := by simp [Value.oneCell']
theorem rf0_yes {r : Nat → Int} {k : Nat} (h : (r k != 4) = false) : rf0 r (k + 1) = (k : Int) := by
 have : (r k == 4) = true := by simpa [bne] using h
 rw [rf0, this]; rfl
theorem rf0_no {r : Nat → Int} {k : Nat} (h : (r k != 4) = true) : rf0 r (k + 1) = rf0 r k := by
 have : (r k == 4) = false := by simpa [bne] using h
 rw [rf0, this]; rfl
theorem rf1_yes {r : Nat → Int} {k : Nat} (h : (r k != 4) = false) (g : (rf1 r k == -1) = true) : rf1 r (k + 1) = (k : Int) := by
 have : (r k == 4) = true := by simpa [bne] using h
 rw [rf1, this, g]; rfl
theorem rf1_was {r : Nat → Int} {k : Nat} (h : (r k != 4) = false) (g : (rf1 r k == -1) = false) : rf1 r (k + 1) = rf1 r k := by
 have : (r k == 4) = true := by simpa [bne] using h
 rw [rf1, this, g]; rfl
theorem rf1_no {r : Nat → Int} {k : Nat} (h : (r k != 4) = true) : rf1 r (k + 1) = rf1 r k := by
 have : (r k == 4) = false := by simpa [bne] using h
 rw [rf1, this]; rfl
theorem rooks_any (r : Nat → Int) (w : World) : Calls Tryz.prog 195 #[.agg (arrA 8 .u8 r)] w (AggL #[.int .i8 (rf0 r 8), .int .i8 (rf1 r 8)] w) := by
 go_enter Tryz.func195, Tryz.ntmps195
 go_wp2_with (first
  | (refine blk_box rfl 83 _ rfl (arrA 8 .u8 r) rfl ?_; intro b1 w1 N R; have HG1 := H_ (Nat.le_of_eq N.at_.symm); have HR1 := H_ R; have HB := H_ N.below; clear N R)
  | (refine blk_alloc (op := ⟨some 2, _, _, _, _, _⟩) rfl 27 rfl #[.int .i8 0, .int .i8 0] zero35 ?_; intro b2 w1 N R; have HG2 := H_ (show w.heap.size ≤ b2 by have := N.at_; have := HB.out.size; omega); have HR1 := H_ (HR1.out.later N.below); have HR2 := H_ R; have HB := H_ (below_on HB.out N.below); clear N R)
  | (refine blk_alloc rfl 27 rfl #[.int .i8 0, .int .i8 0] zero35 ?_; intro b3 w1 N R; have HG3 := H_ (show w.heap.size ≤ b3 by have := N.at_; have := HB.out.size; omega); have HD := H_ (show b2 ≠ b3 by have := N.at_; have := HR2.out.lt; omega); have HD1 := H_ (show b1 ≠ b3 by have := N.at_; have := HR1.out.lt; omega); have HR1 := H_ (HR1.out.later N.below); have HR2 := H_ (HR2.out.later N.below); have HR3 := H_ R; have HB := H_ (below_on HB.out N.below); clear N R)
  | (refine blk_store rfl 27 _ _ rfl b3 rfl #[.int .i8 0, .int .i8 0] #[.int .i8 (-1), .int .i8 (-1)] rfl HR3.out rfl (two_one _ _) size35 ?_; intro w2 U R; have HR2 := H_ (HR2.out.apart U HD.out); have HR3 := H_ R; have HR1 := H_ (HR1.out.apart U HD1.out); have HB := H_ (HB.out.trans (U.below HG3.out)); clear U R)
  | (refine arr_load rfl 83 _ rfl b1 rfl 8 .u8 r HR1.out _ Tryz.underlying83 rfl size58 ?_))
 go_loopw [8] (fun i wr => ∃ k : Nat, k ≤ 8 ∧ i = .int .i64 (k : Int) ∧ Blk wr b3 27 #[.int .i8 (rf0 r k), .int .i8 (rf1 r k)] ∧ Blk wr b2 27 #[.int .i8 0, .int .i8 0] ∧ Below w.heap.size w wr) (fun i _ => 8 - (intOf i).toNat)
 case atStart => exact ⟨0, by omega, rfl, HR3.out, HR2.out, HB.out⟩
 case round =>
  clear HR3 HR2 HB
  obtain ⟨k, hk, rfl, h3, h2, hb⟩ := hrel
  have HR3 := H_ h3
  have HR2 := H_ h2
  have HB := H_ hb
  clear h3 h2 hb
  by_cases hlt : k < 8
  ·obtain ⟨y, Hy⟩ : ∃ y, Hid (r k = y) := ⟨_, H_ rfl⟩
   obtain ⟨z0, Hz0⟩ : ∃ z, Hid (rf0 r k = z) := ⟨_, H_ rfl⟩
   obtain ⟨z1, Hz1⟩ : ∃ z, Hid (rf1 r k = z) := ⟨_, H_ rfl⟩
   rw [Hz0.out, Hz1.out] at HR3
   cases g : (y != 4)
   ·have H0 := H_ (rf0_yes (r := r) (k := k) (by rw [Hy.out]; exact g))
    have hw8 : IntKind.i8.wrap (k : Int) = (k : Int) := IntWalk.i8_in _ (by omega)
    cases g1 : (z1 == -1)
    ·have H1 := H_ (rf1_was (r := r) (k := k) (by rw [Hy.out]; exact g) (by rw [Hz1.out]; exact g1))
     go_wp2_with (first
      | (refine arr_index rfl 83 5 _ _ rfl 8 .u8 r rfl k rfl hlt Tryz.underlying83 Tryz.underlying5 size5 ?_; rw [Hy.out])
      | (refine blk_cell rfl 26 _ _ rfl b3 0 rfl .i8 (k : Int) rfl 27 _ HR3.out (by show 0 < 2; omega) size34 ?_; intro w2 U R; have HR2 := H_ (HR2.out.apart U HD.out); have HR3 := H_ (show Blk _ b3 27 #[.int .i8 (k : Int), .int .i8 z1] from R); have HB := H_ (HB.out.trans (U.below HG3.out)); clear U R)
      | (refine step_get rfl 26 _ rfl b3 1 rfl Tryz.underlying26 rfl (.int .i8 z1) (by rw [HR3.out.cell]; rfl) ?_))
     go_roundw
     case rel => exact ⟨k + 1, by omega, by go_num, by rw [H0.out, H1.out, Hz1.out]; exact HR3.out, HR2.out, HB.out⟩
     case measure => simp [intOf]; omega
    ·have H1 := H_ (rf1_yes (r := r) (k := k) (by rw [Hy.out]; exact g) (by rw [Hz1.out]; exact g1))
     go_wp2_with (first
      | (refine arr_index rfl 83 5 _ _ rfl 8 .u8 r rfl k rfl hlt Tryz.underlying83 Tryz.underlying5 size5 ?_; rw [Hy.out])
      | (refine blk_cell rfl 26 _ _ rfl b3 0 rfl .i8 (k : Int) rfl 27 _ HR3.out (by show 0 < 2; omega) size34 ?_; intro w2 U R; have HR2 := H_ (HR2.out.apart U HD.out); have HR3 := H_ (show Blk _ b3 27 #[.int .i8 (k : Int), .int .i8 z1] from R); have HB := H_ (HB.out.trans (U.below HG3.out)); clear U R)
      | (refine step_get rfl 26 _ rfl b3 1 rfl Tryz.underlying26 rfl (.int .i8 z1) (by rw [HR3.out.cell]; rfl) ?_)
      | (refine blk_cell rfl 26 _ _ rfl b3 1 rfl .i8 (k : Int) rfl 27 _ HR3.out (by show 1 < 2; omega) size34 ?_; intro w2 U R; have HR2 := H_ (HR2.out.apart U HD.out); have HR3 := H_ (show Blk _ b3 27 #[.int .i8 (k : Int), .int .i8 (k : Int)] from R); have HB := H_ (HB.out.trans (U.below HG3.out)); clear U R))
     go_roundw
     case rel => exact ⟨k + 1, by omega, by go_num, by rw [H0.out, H1.out]; exact HR3.out, HR2.out, HB.out⟩
     case measure => simp [intOf]; omega
   ·have H0 := H_ (rf0_no (r := r) (k := k) (by rw [Hy.out]; exact g))
    have H1 := H_ (rf1_no (r := r) (k := k) (by rw [Hy.out]; exact g))
    go_wp2_with (refine arr_index rfl 83 5 _ _ rfl 8 .u8 r rfl k rfl hlt Tryz.underlying83 Tryz.underlying5 size5 ?_; rw [Hy.out])
    go_roundw
    case rel => exact ⟨k + 1, by omega, by go_num, by rw [H0.out, H1.out, Hz0.out, Hz1.out]; exact HR3.out, HR2.out, HB.out⟩
    case measure => simp [intOf]; omega
  ·obtain rfl : k = 8 := by omega
   obtain ⟨z0, Hz0⟩ : ∃ z, Hid (rf0 r 8 = z) := ⟨_, H_ rfl⟩
   obtain ⟨z1, Hz1⟩ : ∃ z, Hid (rf1 r 8 = z) := ⟨_, H_ rfl⟩
   rw [Hz0.out, Hz1.out] at HR3
   go_wp2_with (first
    | (refine blk_load rfl 27 _ rfl b3 rfl #[.int .i8 z0, .int .i8 z1] HR3.out _ Tryz.underlying27 rfl size35 ?_)
    | (refine blk_store rfl 27 _ _ rfl b2 rfl #[.int .i8 0, .int .i8 0] #[.int .i8 z0, .int .i8 z1] rfl HR2.out rfl (two_one _ _) size35 ?_; intro w2 U R; have HR2 := H_ R; have HB := H_ (HB.out.trans (U.below HG2.out)); clear U R))
   refine bodyPost_ret (v := .agg #[.int .i8 z0, .int .i8 z1]) (results_blk rfl _ _ _ _ rfl HR2.out Tryz.underlying27 rfl size35 rfl) rfl ⟨by rw [Hz0.out, Hz1.out], HB.out⟩
end Go.Proofs.YteblmnbagbdiiaaGreatDoor
/-
 Contracts of the program's army, a color each.
-/
namespace Go.Proofs.YteblmnbagbdiiaaGreatDoor
open Go.RowKit
set_option linter.unusedVariables false

def armyN (p : Nat → Int) (h a c : Nat) (r : Nat → Int) : Nat → Nat → Int
 | 0 => p
 | k + 1 => upd (upd (armyN p h a c r k) (1 + (8 * h + k)) (8 * (c : Int) + r k)) (1 + (8 * a + k)) (8 * (c : Int) + 1)
theorem armyN_zero (p : Nat → Int) (h a c : Nat) (r : Nat → Int) : ∀ k, armyN p h a c r k 0 = p 0
 | 0 => rfl
 | k + 1 => by
  show upd (upd _ _ _) _ _ 0 = _
  rw [upd_other _ _ _ _ (by omega), upd_other _ _ _ _ (by omega)]
  exact armyN_zero p h a c r k
def rookP (p : Nat → Int) (o : Nat) (a b : Int) : Nat → Int := upd (upd p o a) (o + 1) b
theorem over_two (p : Nat → Int) (o : Nat) (a b : Int) : over p o 2 (rookP zeroP o a b) = rookP p o a b := by
 funext j
 unfold over rookP
 by_cases e1 : j = o + 1
 ·subst e1; rw [if_pos (by omega), upd_same, upd_same]
 ·by_cases e0 : j = o
  ·subst e0; rw [if_pos (by omega), upd_other _ _ _ _ e1, upd_same, upd_other _ _ _ _ e1, upd_same]
  ·rw [if_neg (by omega), upd_other _ _ _ _ e1, upd_other _ _ _ _ e0]
def armyP (v : Nat) (p : Nat → Int) (c : Nat) (r : Nat → Int) : Nat → Int :=
 bif casB v then rookP (armyN p (7 * c) (1 + 5 * c) c r 8) (79 + 2 * c) (rf0 r 8) (rf1 r 8) else armyN p (7 * c) (1 + 5 * c) c r 8
theorem rook_val0 (a b : Int) : Value.agg #[.int .i8 a, .int .i8 b] = .agg (partL (rookP zeroP 79 a b) 79 2).toArray := by kernel_rfl
theorem rook_val1 (a b : Int) : Value.agg #[.int .i8 a, .int .i8 b] = .agg (partL (rookP zeroP 81 a b) 81 2).toArray := by kernel_rfl
def Kinds15 (r : Nat → Int) : Prop := ∀ i, i < 8 → ∃ n : Nat, n ≤ 7 ∧ r i = (n : Int)
theorem New.row3 {b c : Nat} {w w' : World} {p : Nat → Int} (h : New b w w') (hr : Row w c p) : Row w' c p := hr.later h.below
theorem army0_any (v : Nat) (p r : Nat → Int) (w : World) (hv : v ≤ 255) (hp : p 0 = (v : Int)) (hr : Kinds15 r) (hT : TabVar w) :
  Calls Tryz.prog 120 #[.agg (posA p), .int .u8 0, .agg (arrA 8 .u8 r)] w (PosL (armyP v p 0 r) w) := by
 have HT := H_ hT
 have HV := H_ hr
 have HP := H_ hp
 clear hT hr hp
 go_enter Tryz.func120, Tryz.ntmps120
 go_wp2_with (first
  | (refine step_box rfl _ rfl p rfl ?_; intro b3 w1 N R; have HG3 := H_ (Nat.le_of_eq N.at_.symm); have HR3 := H_ R; have HB := H_ N.below; clear N R)
  | (refine blk_box rfl 83 _ rfl (arrA 8 .u8 r) rfl ?_; intro b5 w1 N R; have HD5 := H_ (show b5 ≠ b3 by have := N.at_; have := HR3.out.lt; omega); have HR3 := H_ (N.row3 HR3.out); have HR5 := H_ R; have HB := H_ (below_on HB.out N.below); clear N R)
  | (refine step_alloc rfl rfl ?_; intro b6 w1 N R; have HG6 := H_ (show w.heap.size ≤ b6 by have := N.at_; have := HB.out.size; omega); have HD6 := H_ (show b6 ≠ b3 by have := N.at_; have := HR3.out.lt; omega); have HR3 := H_ (N.row3 HR3.out); have HR5 := H_ (HR5.out.later N.below); have HR6 := H_ R; have HB := H_ (below_on HB.out N.below); clear N R)
  | (refine arr_load rfl 83 _ rfl b5 rfl 8 .u8 r HR5.out _ Tryz.underlying83 rfl size58 ?_))
 go_loopw [14] (fun i wr => ∃ k : Nat, k ≤ 8 ∧ i = .int .i64 (k : Int) ∧ Row wr b3 (armyN p 0 1 0 r k) ∧ Blk wr b5 83 (arrA 8 .u8 r) ∧ Row wr b6 zeroP ∧ Below w.heap.size w wr) (fun i _ => 8 - (intOf i).toNat)
 case atStart => exact ⟨0, by omega, rfl, HR3.out, HR5.out, HR6.out, HB.out⟩
 case round =>
  clear HR3 HR5 HR6 HB
  obtain ⟨k, hk, rfl, h3, h5, h6, hb⟩ := hrel
  have HR3 := H_ h3
  have HR5 := H_ h5
  have HR6 := H_ h6
  have HB := H_ hb
  clear h3 h5 h6 hb
  by_cases hlt : k < 8
  ·obtain ⟨n, hn, hy⟩ := HV.out k hlt
   have Hy := H_ hy
   clear hy
   obtain ⟨s1, Hs1⟩ : ∃ s, Hid (8 * 0 + k = s) := ⟨_, H_ rfl⟩
   obtain ⟨s2, Hs2⟩ : ∃ s, Hid (8 * 1 + k = s) := ⟨_, H_ rfl⟩
   obtain ⟨m1, Hm1⟩ : ∃ s, Hid (8 * 0 + n = s) := ⟨_, H_ rfl⟩
   obtain ⟨m2, Hm2⟩ : ∃ s, Hid (8 * 0 + 1 = s) := ⟨_, H_ rfl⟩
   have l1 : s1 < 64 := by have := Hs1.out; omega
   have l2 : s2 < 64 := by have := Hs2.out; omega
   have HK1 := H_ (kAt_board (Nat.zero_le _) l1)
   have HK2 := H_ (kAt_board (Nat.zero_le _) l2)
   have HN : Hid (armyN p 0 1 0 r (k + 1) = upd (upd (armyN p 0 1 0 r k) (1 + s1) (m1 : Int)) (1 + s2) (m2 : Int)) := H_ (by
    show upd (upd _ _ _) _ _ = _
    have e1 := Hm1.out
    have e2 := Hm2.out
    rw [Hs1.out, Hs2.out, Hy.out, show (8 * ((0 : Nat) : Int) + (n : Int)) = (m1 : Int) by omega, show (8 * ((0 : Nat) : Int) + 1) = (m2 : Int) by omega])
   have l3 : (s1 : Int) < 64 := by omega
   have l4 : (s2 : Int) < 64 := by omega
   go_wp2_with (refine arr_index rfl 83 5 _ _ rfl 8 .u8 r rfl k rfl hlt Tryz.underlying83 Tryz.underlying5 size5 ?_; rw [Hy.out])
   refine (square_any k 0 _ hlt (by omega)).mono ?_; rintro e wn ⟨rfl, rfl⟩; rw [Hs1.out]
   go_wp2_with fail
   refine (man_any 0 n _ (by omega) (by omega)).mono ?_; rintro e wn ⟨rfl, rfl⟩; rw [Hm1.out]
   go_wp2_with (refine step_cell rfl 5 _ _ rfl b3 (1 + s1) rfl .u8 (m1 : Int) rfl _ HR3.out (by omega) HK1.out size5 ?_; intro w2 U R; have HR5 := H_ (HR5.out.apart U HD5.out); have HR6 := H_ (HR6.out.apart U HD6.out); have HR3 := H_ R; have HB := H_ (HB.out.trans (U.below HG3.out)); clear U R)
   refine (square_any k 1 _ hlt (by omega)).mono ?_; rintro e wn ⟨rfl, rfl⟩; rw [Hs2.out]
   go_wp2_with fail
   refine (man_any 0 1 _ (by omega) (by omega)).mono ?_; rintro e wn ⟨rfl, rfl⟩; rw [Hm2.out]
   go_wp2_with (refine step_cell rfl 5 _ _ rfl b3 (1 + s2) rfl .u8 (m2 : Int) rfl _ HR3.out (by omega) HK2.out size5 ?_; intro w2 U R; have HR5 := H_ (HR5.out.apart U HD5.out); have HR6 := H_ (HR6.out.apart U HD6.out); have HR3 := H_ R; have HB := H_ (HB.out.trans (U.below HG3.out)); clear U R)
   go_roundw
   case rel => exact ⟨k + 1, by omega, by go_num, by rw [HN.out]; exact HR3.out, HR5.out, HR6.out, HB.out⟩
   case measure => simp [intOf]; omega
  ·obtain rfl : k = 8 := by omega
   have hc0 := HR3.out.cell 0 (by omega)
   rw [armyN_zero, HP.out, show kAt 0 = .u8 from rfl] at hc0
   obtain ⟨q, Hq⟩ : ∃ q, Hid (armyN p 0 1 0 r 8 = q) := ⟨_, H_ rfl⟩
   rw [Hq.out] at HR3
   go_wp2_with fail
   refine (cas_any v _ hv (HT.out.on HB.out)).mono ?_; rintro e wn ⟨rfl, hb⟩; have HR3 := H_ (HR3.out.later hb); have HR5 := H_ (HR5.out.later hb); have HR6 := H_ (HR6.out.later hb); have HB := H_ (below_on HB.out hb); clear hb hc0
   cases hcas : casB v
   ·have HE := H_ (show armyP v p 0 r = q by unfold armyP; rw [hcas]; exact Hq.out)
    go_wp2_with (first
     | (refine step_load rfl _ rfl b3 rfl q HR3.out ?_)
     | (refine step_store rfl _ _ rfl b6 rfl _ q rfl HR6.out ?_; intro w2 U R; have HR6 := H_ R; have HB := H_ (HB.out.trans (U.below HG6.out)); clear U R))
    refine bodyPost_ret (v := .agg (posA q)) (results_row rfl _ _ _ _ rfl HR6.out) rfl ⟨by rw [HE.out], HB.out⟩
   ·have HE := H_ (show armyP v p 0 r = rookP q 79 (rf0 r 8) (rf1 r 8) by unfold armyP; rw [hcas, ← Hq.out]; rfl)
    obtain ⟨z0, Hz0⟩ : ∃ z, Hid (rf0 r 8 = z) := ⟨_, H_ rfl⟩
    obtain ⟨z1, Hz1⟩ : ∃ z, Hid (rf1 r 8 = z) := ⟨_, H_ rfl⟩
    go_wp2_with (refine arr_load rfl 83 _ rfl b5 rfl 8 .u8 r HR5.out _ Tryz.underlying83 rfl size58 ?_)
    refine (rooks_any r _).mono ?_; rintro e wn ⟨rfl, hb⟩; have HR3 := H_ (HR3.out.later hb); have HR6 := H_ (HR6.out.later hb); have HB := H_ (below_on HB.out hb); clear hb; rw [Hz0.out, Hz1.out]
    go_wp2_with (first
     | (refine step_write rfl 27 _ _ rfl b3 79 2 rfl _ (rookP zeroP 79 z0 z1) (rook_val0 z0 z1) HR3.out (by omega) size35 ?_; intro w2 U R; rw [over_two] at R; have HR6 := H_ (HR6.out.apart U HD6.out); have HR3 := H_ R; have HB := H_ (HB.out.trans (U.below HG3.out)); clear U R)
     | (refine step_load rfl _ rfl b3 rfl (rookP q 79 z0 z1) ?_ ?_; exact HR3.out)
     | (refine step_store rfl _ _ rfl b6 rfl _ (rookP q 79 z0 z1) rfl HR6.out ?_; intro w2 U R; have HR6 := H_ R; have HB := H_ (HB.out.trans (U.below HG6.out)); clear U R))
    refine bodyPost_ret (v := .agg (posA (rookP q 79 z0 z1))) (results_row rfl _ _ _ _ rfl HR6.out) rfl ⟨by rw [HE.out, Hz0.out, Hz1.out], HB.out⟩
theorem army1_any (v : Nat) (p r : Nat → Int) (w : World) (hv : v ≤ 255) (hp : p 0 = (v : Int)) (hr : Kinds15 r) (hT : TabVar w) :
  Calls Tryz.prog 120 #[.agg (posA p), .int .u8 1, .agg (arrA 8 .u8 r)] w (PosL (armyP v p 1 r) w) := by
 have HT := H_ hT
 have HV := H_ hr
 have HP := H_ hp
 clear hT hr hp
 go_enter Tryz.func120, Tryz.ntmps120
 go_wp2_with (first
  | (refine step_box rfl _ rfl p rfl ?_; intro b3 w1 N R; have HG3 := H_ (Nat.le_of_eq N.at_.symm); have HR3 := H_ R; have HB := H_ N.below; clear N R)
  | (refine blk_box rfl 83 _ rfl (arrA 8 .u8 r) rfl ?_; intro b5 w1 N R; have HD5 := H_ (show b5 ≠ b3 by have := N.at_; have := HR3.out.lt; omega); have HR3 := H_ (N.row3 HR3.out); have HR5 := H_ R; have HB := H_ (below_on HB.out N.below); clear N R)
  | (refine step_alloc rfl rfl ?_; intro b6 w1 N R; have HG6 := H_ (show w.heap.size ≤ b6 by have := N.at_; have := HB.out.size; omega); have HD6 := H_ (show b6 ≠ b3 by have := N.at_; have := HR3.out.lt; omega); have HR3 := H_ (N.row3 HR3.out); have HR5 := H_ (HR5.out.later N.below); have HR6 := H_ R; have HB := H_ (below_on HB.out N.below); clear N R)
  | (refine arr_load rfl 83 _ rfl b5 rfl 8 .u8 r HR5.out _ Tryz.underlying83 rfl size58 ?_))
 go_loopw [14] (fun i wr => ∃ k : Nat, k ≤ 8 ∧ i = .int .i64 (k : Int) ∧ Row wr b3 (armyN p 7 6 1 r k) ∧ Blk wr b5 83 (arrA 8 .u8 r) ∧ Row wr b6 zeroP ∧ Below w.heap.size w wr) (fun i _ => 8 - (intOf i).toNat)
 case atStart => exact ⟨0, by omega, rfl, HR3.out, HR5.out, HR6.out, HB.out⟩
 case round =>
  clear HR3 HR5 HR6 HB
  obtain ⟨k, hk, rfl, h3, h5, h6, hb⟩ := hrel
  have HR3 := H_ h3
  have HR5 := H_ h5
  have HR6 := H_ h6
  have HB := H_ hb
  clear h3 h5 h6 hb
  by_cases hlt : k < 8
  ·obtain ⟨n, hn, hy⟩ := HV.out k hlt
   have Hy := H_ hy
   clear hy
   obtain ⟨s1, Hs1⟩ : ∃ s, Hid (8 * 7 + k = s) := ⟨_, H_ rfl⟩
   obtain ⟨s2, Hs2⟩ : ∃ s, Hid (8 * 6 + k = s) := ⟨_, H_ rfl⟩
   obtain ⟨m1, Hm1⟩ : ∃ s, Hid (8 * 1 + n = s) := ⟨_, H_ rfl⟩
   obtain ⟨m2, Hm2⟩ : ∃ s, Hid (8 * 1 + 1 = s) := ⟨_, H_ rfl⟩
   have l1 : s1 < 64 := by have := Hs1.out; omega
   have l2 : s2 < 64 := by have := Hs2.out; omega
   have HK1 := H_ (kAt_board (Nat.zero_le _) l1)
   have HK2 := H_ (kAt_board (Nat.zero_le _) l2)
   have HN : Hid (armyN p 7 6 1 r (k + 1) = upd (upd (armyN p 7 6 1 r k) (1 + s1) (m1 : Int)) (1 + s2) (m2 : Int)) := H_ (by
    show upd (upd _ _ _) _ _ = _
    have e1 := Hm1.out
    have e2 := Hm2.out
    rw [Hs1.out, Hs2.out, Hy.out, show (8 * ((1 : Nat) : Int) + (n : Int)) = (m1 : Int) by omega, show (8 * ((1 : Nat) : Int) + 1) = (m2 : Int) by omega])
   have l3 : (s1 : Int) < 64 := by omega
   have l4 : (s2 : Int) < 64 := by omega
   go_wp2_with (refine arr_index rfl 83 5 _ _ rfl 8 .u8 r rfl k rfl hlt Tryz.underlying83 Tryz.underlying5 size5 ?_; rw [Hy.out])
   refine (square_any k 7 _ hlt (by omega)).mono ?_; rintro e wn ⟨rfl, rfl⟩; rw [Hs1.out]
   go_wp2_with fail
   refine (man_any 1 n _ (by omega) (by omega)).mono ?_; rintro e wn ⟨rfl, rfl⟩; rw [Hm1.out]
   go_wp2_with (refine step_cell rfl 5 _ _ rfl b3 (1 + s1) rfl .u8 (m1 : Int) rfl _ HR3.out (by omega) HK1.out size5 ?_; intro w2 U R; have HR5 := H_ (HR5.out.apart U HD5.out); have HR6 := H_ (HR6.out.apart U HD6.out); have HR3 := H_ R; have HB := H_ (HB.out.trans (U.below HG3.out)); clear U R)
   refine (square_any k 6 _ hlt (by omega)).mono ?_; rintro e wn ⟨rfl, rfl⟩; rw [Hs2.out]
   go_wp2_with fail
   refine (man_any 1 1 _ (by omega) (by omega)).mono ?_; rintro e wn ⟨rfl, rfl⟩; rw [Hm2.out]
   go_wp2_with (refine step_cell rfl 5 _ _ rfl b3 (1 + s2) rfl .u8 (m2 : Int) rfl _ HR3.out (by omega) HK2.out size5 ?_; intro w2 U R; have HR5 := H_ (HR5.out.apart U HD5.out); have HR6 := H_ (HR6.out.apart U HD6.out); have HR3 := H_ R; have HB := H_ (HB.out.trans (U.below HG3.out)); clear U R)
   go_roundw
   case rel => exact ⟨k + 1, by omega, by go_num, by rw [HN.out]; exact HR3.out, HR5.out, HR6.out, HB.out⟩
   case measure => simp [intOf]; omega
  ·obtain rfl : k = 8 := by omega
   have hc0 := HR3.out.cell 0 (by omega)
   rw [armyN_zero, HP.out, show kAt 0 = .u8 from rfl] at hc0
   obtain ⟨q, Hq⟩ : ∃ q, Hid (armyN p 7 6 1 r 8 = q) := ⟨_, H_ rfl⟩
   rw [Hq.out] at HR3
   go_wp2_with fail
   refine (cas_any v _ hv (HT.out.on HB.out)).mono ?_; rintro e wn ⟨rfl, hb⟩; have HR3 := H_ (HR3.out.later hb); have HR5 := H_ (HR5.out.later hb); have HR6 := H_ (HR6.out.later hb); have HB := H_ (below_on HB.out hb); clear hb hc0
   cases hcas : casB v
   ·have HE := H_ (show armyP v p 1 r = q by unfold armyP; rw [hcas]; exact Hq.out)
    go_wp2_with (first
     | (refine step_load rfl _ rfl b3 rfl q HR3.out ?_)
     | (refine step_store rfl _ _ rfl b6 rfl _ q rfl HR6.out ?_; intro w2 U R; have HR6 := H_ R; have HB := H_ (HB.out.trans (U.below HG6.out)); clear U R))
    refine bodyPost_ret (v := .agg (posA q)) (results_row rfl _ _ _ _ rfl HR6.out) rfl ⟨by rw [HE.out], HB.out⟩
   ·have HE := H_ (show armyP v p 1 r = rookP q 81 (rf0 r 8) (rf1 r 8) by unfold armyP; rw [hcas, ← Hq.out]; rfl)
    obtain ⟨z0, Hz0⟩ : ∃ z, Hid (rf0 r 8 = z) := ⟨_, H_ rfl⟩
    obtain ⟨z1, Hz1⟩ : ∃ z, Hid (rf1 r 8 = z) := ⟨_, H_ rfl⟩
    go_wp2_with (refine arr_load rfl 83 _ rfl b5 rfl 8 .u8 r HR5.out _ Tryz.underlying83 rfl size58 ?_)
    refine (rooks_any r _).mono ?_; rintro e wn ⟨rfl, hb⟩; have HR3 := H_ (HR3.out.later hb); have HR6 := H_ (HR6.out.later hb); have HB := H_ (below_on HB.out hb); clear hb; rw [Hz0.out, Hz1.out]
    go_wp2_with (first
     | (refine step_write rfl 27 _ _ rfl b3 81 2 rfl _ (rookP zeroP 81 z0 z1) (rook_val1 z0 z1) HR3.out (by omega) size35 ?_; intro w2 U R; rw [over_two] at R; have HR6 := H_ (HR6.out.apart U HD6.out); have HR3 := H_ R; have HB := H_ (HB.out.trans (U.below HG3.out)); clear U R)
     | (refine step_load rfl _ rfl b3 rfl (rookP q 81 z0 z1) ?_ ?_; exact HR3.out)
     | (refine step_store rfl _ _ rfl b6 rfl _ (rookP q 81 z0 z1) rfl HR6.out ?_; intro w2 U R; have HR6 := H_ R; have HB := H_ (HB.out.trans (U.below HG6.out)); clear U R))
    refine bodyPost_ret (v := .agg (posA (rookP q 81 z0 z1))) (results_row rfl _ _ _ _ rfl HR6.out) rfl ⟨by rw [HE.out, Hz0.out, Hz1.out], HB.out⟩
end Go.Proofs.YteblmnbagbdiiaaGreatDoor
/-
 Contracts of the program's shuffled, both, Start960.
-/
namespace Go.Proofs.YteblmnbagbdiiaaGreatDoor
open Go.RowKit
set_option linter.unusedVariables false
set_option linter.unusedSimpArgs false
theorem armyP_zero (v : Nat) (p : Nat → Int) (c : Nat) (r : Nat → Int) : armyP v p c r 0 = p 0 := by
 unfold armyP
 cases casB v
 ·exact armyN_zero _ _ _ _ _ _
 ·show rookP _ _ _ _ 0 = _
  unfold rookP
  rw [upd_other _ _ _ _ (by omega), upd_other _ _ _ _ (by omega)]
  exact armyN_zero _ _ _ _ _ _
def bothP (v : Nat) (r : Nat → Int) : Nat → Int := armyP v (armyP v (bareP v) 0 r) 1 r
theorem both_any (v : Nat) (r : Nat → Int) (w : World) (hv : v ≤ 255) (hr : Kinds15 r) (hT : TabVar w) : Calls Tryz.prog 59 #[.int .u8 (v : Int), .agg (arrA 8 .u8 r)] w (PosL (bothP v r) w) := by
 have HT := H_ hT
 have HV := H_ hr
 clear hT hr
 go_enter Tryz.func59, Tryz.ntmps59
 go_wp2_with (first
  | (refine blk_box rfl 83 _ rfl (arrA 8 .u8 r) rfl ?_; intro b3 w1 N R; have HR3 := H_ R; have HB := H_ N.below; clear N R)
  | (refine step_alloc rfl rfl ?_; intro b4 w1 N R; have HG4 := H_ (show w.heap.size ≤ b4 by have := N.at_; have := HB.out.size; omega); have HR3 := H_ (HR3.out.later N.below); have HR4 := H_ R; have HB := H_ (below_on HB.out N.below); clear N R))
 refine late_begin 6 (by kernel_rfl) ?_
 refine lw 0 rfl ?_
 simp only [Act.put, pa, pb, pc]
 refine lv 2 rfl ⟨_, fun w' hl => (run_blk 83 _ rfl _ rfl (arrA 8 .u8 r) (HR3.out.later hl) _ Tryz.underlying83 rfl (by rw [arrA_size]; exact size58)), ?_⟩
 simp only [Act.put, pa, pb, pc]
 refine lv 4 rfl ⟨_, fun w' hl => (run_blk 83 _ rfl _ rfl (arrA 8 .u8 r) (HR3.out.later hl) _ Tryz.underlying83 rfl (by rw [arrA_size]; exact size58)), ?_⟩
 simp only [Act.put, pa, pb, pc]
 refine l1 1 rfl fun wn hl K hK => ?_
 have HR3 := H_ (HR3.out.later hl); have HR4 := H_ (HR4.out.later hl); have HB := H_ (below_on HB.out hl); clear hl
 refine we ?_
 refine (bare_any (v : Int) _).mono ?_; rintro e wm ⟨rfl, hb⟩; refine ⟨_, rfl, ?_⟩
 refine hK.out _ _ hb ?_
 have HR3 := H_ (HR3.out.later hb); have HR4 := H_ (HR4.out.later hb); have HB := H_ (below_on HB.out hb); clear hb
 clear hK K
 simp only [Act.put, pa, pb, pc]
 refine l1 3 rfl fun wn hl K hK => ?_
 have HR3 := H_ (HR3.out.later hl); have HR4 := H_ (HR4.out.later hl); have HB := H_ (below_on HB.out hl); clear hl
 refine we ?_
 refine (army0_any v (bareP v) r _ hv rfl HV.out (HT.out.on HB.out)).mono ?_; rintro e wm ⟨rfl, hb⟩; refine ⟨_, rfl, ?_⟩
 refine hK.out _ _ hb ?_
 have HR3 := H_ (HR3.out.later hb); have HR4 := H_ (HR4.out.later hb); have HB := H_ (below_on HB.out hb); clear hb
 clear hK K
 simp only [Act.put, pa, pb, pc]
 refine l1 5 rfl fun wn hl K hK => ?_
 have HR3 := H_ (HR3.out.later hl); have HR4 := H_ (HR4.out.later hl); have HB := H_ (below_on HB.out hl); clear hl
 refine we ?_
 refine (army1_any v (armyP v (bareP v) 0 r) r _ hv (armyP_zero _ _ _ _) HV.out (HT.out.on HB.out)).mono ?_; rintro e wm ⟨rfl, hb⟩; refine ⟨_, rfl, ?_⟩
 refine hK.out _ _ hb ?_
 have HR3 := H_ (HR3.out.later hb); have HR4 := H_ (HR4.out.later hb); have HB := H_ (below_on HB.out hb); clear hb
 clear hK K
 simp only [Act.put, pa, pb, pc]
 refine late_last 6 (by kernel_rfl) (by kernel_rfl) (by kernel_rfl) (fun o ho => ?_)
 simp only [qa, qb, qc, qd] at ho; subst ho
 refine ⟨by kernel_rfl, fun wn hl K hK => ?_⟩
 have HR3 := H_ (HR3.out.later hl); have HR4 := H_ (HR4.out.later hl); have HB := H_ (below_on HB.out hl); clear hl
 refine late_whole _ _ rfl b4 rfl zeroP (bothP v r) rfl HR4.out ?_; intro wm U R
 have HR4 := H_ R; have HB := H_ (HB.out.trans (U.below HG4.out)); clear U R
 refine hK.out _ _ ?_
 clear hK K
 simp only [Act.put, pa, pb, pc]
 go_wp2_with fail
 obtain ⟨q, Hq⟩ : ∃ q, Hid (bothP v r = q) := ⟨_, H_ rfl⟩
 rw [Hq.out] at HR4
 refine bodyPost_ret (v := .agg (posA q)) (results_row rfl _ _ _ _ rfl HR4.out) rfl ⟨by rw [Hq.out], HB.out⟩
def PosB (q : Nat → Int) (b : Bool) (w : World) (e : Ending) (w' : World) : Prop := e = .returned (.tuple #[.agg (posA q), .bool b]) ∧ Below w.heap.size w w'
theorem results_two {fn : Func} {i j : Tmp} (h : fn.results = #[.cell i 31, .tmp j]) (tmps : Array Value) (w : World) (b : Nat) (p : Nat → Int) (x : Value) (hp : tmps.getD i undef = .pointer (some ⟨b, 0, none⟩)) (hx : tmps.getD j undef = x) (hr : Row w b p) :
  (results fn tmps).run Tryz.prog w = .ok (.tuple #[.agg (posA p), x]) w := by
 have hl := run_loadVar_row w b 31 31 (posA p) (0, 0) _ hr Tryz.underlying31 rfl (by rw [posA_size]; exact size31)
 have hp' : tmps[i]?.getD undef = .pointer (some ⟨b, 0, none⟩) := by simpa using hp
 have hx' : tmps[j]?.getD undef = x := by simpa using hx
 simp [results, h, hp', hx', asAddr, hl]
def posN (n : Nat) : Nat → Int := bothP 1 (rowZ n)
end Go.Proofs.YteblmnbagbdiiaaGreatDoor
/-
 Contracts of the program's horde, race.
-/
namespace Go.Proofs.YteblmnbagbdiiaaGreatDoor
open Go.RowKit
set_option linter.unusedVariables false
set_option linter.unusedSimpArgs false
theorem kinds_ch : Kinds15 chR := fun i hi => ⟨[4, 2, 3, 5, 6, 3, 2, 4].getD i 0, by
 have key : ∀ i : Fin 8, [4, 2, 3, 5, 6, 3, 2, 4].getD i.val 0 ≤ 7 := by decide +kernel
 exact key ⟨i, hi⟩, rfl⟩
def hoN (p : Nat → Int) : Nat → Nat → Int
 | 0 => p
 | k + 1 => upd (hoN p k) (1 + k) 1
def hoF (j : Nat) : Nat := [1, 2, 5, 6].getD j 0
def hoM (p : Nat → Int) : Nat → Nat → Int
 | 0 => p
 | j + 1 => upd (hoM p j) (1 + (32 + hoF j)) 1
def hoP : Nat → Int := hoM (hoN (armyP 7 (bareP 7) 1 chR) 32) 4
end Go.Proofs.YteblmnbagbdiiaaGreatDoor
/-
 Contract of the program's race.
-/
namespace Go.Proofs.YteblmnbagbdiiaaGreatDoor
open Go.RowKit
set_option linter.unusedVariables false
set_option linter.unusedSimpArgs false
def haR (k : Nat) : Nat → Int := fun j => (([2, 3, 4, 5 + k].getD j 0 : Nat) : Int)
def haN (k j : Nat) : Nat := [2, 3, 4, 5 + k].getD j 0
def raJ (p : Nat → Int) (k : Nat) : Nat → Nat → Int
 | 0 => p
 | j + 1 => upd (upd (raJ p k j) (1 + (8 * k + (4 + j))) ((haN k j : Nat) : Int)) (1 + (8 * k + (3 - j))) ((8 + haN k j : Nat) : Int)
def raK (p : Nat → Int) : Nat → Nat → Int
 | 0 => p
 | k + 1 => raJ (raK p k) k 4
def raP : Nat → Int := raK (bareP 8) 2
def haA : Array Value := #[.int .u8 2, .int .u8 3, .int .u8 4, .int .u8 5, .int .u8 2, .int .u8 3, .int .u8 4, .int .u8 6]
theorem ha0 : haA.extract (0 * 4) (0 * 4 + 4) = arrA 4 .u8 (haR 0) := by kernel_rfl
theorem ha1 : haA.extract (1 * 4) (1 * 4 + 4) = arrA 4 .u8 (haR 1) := by kernel_rfl
end Go.Proofs.YteblmnbagbdiiaaGreatDoor
/-
 Contract of the program's Start.
-/
namespace Go.Proofs.YteblmnbagbdiiaaGreatDoor
open Go.RowKit
set_option linter.unusedVariables false
set_option linter.unusedSimpArgs false
def startP (v : Nat) : Nat → Int := if 9 ≤ v then zeroP else if v = 1 then posN 518 else if v = 7 then hoP else if v = 8 then raP else bothP v chR
theorem start_rest {v : Nat} (h : v < 9) (h1 : v ≠ 1) (h7 : v ≠ 7) (h8 : v ≠ 8) : startP v = bothP v chR := by
 unfold startP
 rw [if_neg (by omega), if_neg h1, if_neg h7, if_neg h8]
theorem start_of (w : World) (v : Nat) (h : v < 9) (h1 : v ≠ 1) (h7 : v ≠ 7) (h8 : v ≠ 8) (hT : TabVar w) : Calls Tryz.prog 25 #[.int .u8 (v : Int)] w (PosB (startP v) true w) := by
 have HT := H_ hT
 clear hT
 obtain ⟨q, Hq⟩ : ∃ q, Hid (bothP v chR = q) := ⟨_, H_ rfl⟩
 have HE := H_ (show startP v = q by rw [start_rest h h1 h7 h8, Hq.out])
 have g0 : decide ((9 : Int) ≤ (v : Int)) = false := decide_eq_false (by omega)
 have g1 : ((v : Int) == 1) = false := by simp; omega
 have g7 : ((v : Int) == 7) = false := by simp; omega
 have g8 : ((v : Int) == 8) = false := by simp; omega
 clear h1 h7 h8
 go_enter Tryz.func25, Tryz.ntmps25
 go_wp2_with (refine step_alloc rfl rfl ?_; intro b2 w1 N R; have HG2 := H_ (Nat.le_of_eq N.at_.symm); have HR2 := H_ R; have HB := H_ N.below; clear N R)
 refine (chess_any _).mono ?_; rintro e wn ⟨rfl, hb⟩; have HR2 := H_ (HR2.out.later hb); have HB := H_ (below_on HB.out hb); clear hb
 obtain ⟨rc, Hrc⟩ : ∃ q, Hid (chR = q) := ⟨_, H_ rfl⟩
 have HV := H_ (show Kinds15 rc by rw [← Hrc.out]; exact kinds_ch)
 rw [Hrc.out] at Hq
 rw [Hrc.out]
 go_wp2_with fail
 refine (both_any v rc _ (by omega) HV.out (HT.out.on HB.out)).mono ?_; rintro e wn ⟨rfl, hb⟩; have HR2 := H_ (HR2.out.later hb); have HB := H_ (below_on HB.out hb); clear hb; rw [Hq.out]
 go_wp2_with (refine step_store rfl _ _ rfl b2 rfl zeroP q rfl ?_ ?_; exact HR2.out; intro w2 U R; have HR2 := H_ R; have HB := H_ (HB.out.trans (U.below HG2.out)); clear U R)
 refine bodyPost_ret (v := .tuple #[.agg (posA q), .bool true]) (results_two rfl _ _ _ _ _ rfl rfl HR2.out) rfl ⟨by rw [HE.out], HB.out⟩
end Go.Proofs.YteblmnbagbdiiaaGreatDoor
