/-
  Contracts of the program's army, a color each.
-/
import Derived.Test.YtjbfjohgfbipgaaGreatDoorRuPlace
namespace Go.Proofs.YtjbfjohgfbipgaaGreatDoor
open Go.RowKit
set_option linter.unusedVariables false

/-- Behind k files: on the rank h the pieces, on the rank a the pawns of a color. -/
def armyN (p : Nat → Int) (h a c : Nat) (r : Nat → Int) : Nat → Nat → Int
  | 0 => p
  | k + 1 => upd (upd (armyN p h a c r k) (1 + (8 * h + k)) (8 * (c : Int) + r k)) (1 + (8 * a + k)) (8 * (c : Int) + 1)
theorem armyN_zero (p : Nat → Int) (h a c : Nat) (r : Nat → Int) : ∀ k, armyN p h a c r k 0 = p 0
  | 0 => rfl
  | k + 1 => by
    show upd (upd _ _ _) _ _ 0 = _
    rw [upd_other _ _ _ _ (by omega), upd_other _ _ _ _ (by omega)]
    exact armyN_zero p h a c r k
def rookP (p : Nat → Int) (o : Nat) (a b : Int) : Nat → Int := upd (upd p o a) (o + 1) b
theorem over_two (p : Nat → Int) (o : Nat) (a b : Int) : over p o 2 (rookP zeroP o a b) = rookP p o a b := by
  funext j
  unfold over rookP
  by_cases e1 : j = o + 1
  · subst e1; rw [if_pos (by omega), upd_same, upd_same]
  · by_cases e0 : j = o
    · subst e0; rw [if_pos (by omega), upd_other _ _ _ _ e1, upd_same, upd_other _ _ _ _ e1, upd_same]
    · rw [if_neg (by omega), upd_other _ _ _ _ e1, upd_other _ _ _ _ e0]
/-- A color lined up. -/
def armyP (v : Nat) (p : Nat → Int) (c : Nat) (r : Nat → Int) : Nat → Int :=
  bif casB v then rookP (armyN p (7 * c) (1 + 5 * c) c r 8) (79 + 2 * c) (rf0 r 8) (rf1 r 8) else armyN p (7 * c) (1 + 5 * c) c r 8
theorem rook_val0 (a b : Int) : Value.agg #[.int .i8 a, .int .i8 b] = .agg (partL (rookP zeroP 79 a b) 79 2).toArray := by kernel_rfl
theorem rook_val1 (a b : Int) : Value.agg #[.int .i8 a, .int .i8 b] = .agg (partL (rookP zeroP 81 a b) 81 2).toArray := by kernel_rfl
def Kinds15 (r : Nat → Int) : Prop := ∀ i, i < 8 → ∃ n : Nat, n ≤ 7 ∧ r i = (n : Int)
theorem New.row3 {b c : Nat} {w w' : World} {p : Nat → Int} (h : New b w w') (hr : Row w c p) : Row w' c p := hr.later h.below
set_option maxRecDepth 100000 in
set_option maxHeartbeats 2000000 in
theorem army0_any (v : Nat) (p r : Nat → Int) (w : World) (hv : v ≤ 255) (hp : p 0 = (v : Int)) (hr : Kinds15 r) (hT : TabVar w) :
    Calls Tryz.prog 77 #[.agg (posA p), .int .u8 0, .agg (arrA 8 .u8 r)] w (PosL (armyP v p 0 r) w) := by
  have HT := Lib.hid hT
  have HV := Lib.hid hr
  have HP := Lib.hid hp
  clear hT hr hp
  go_enter Tryz.func77, Tryz.ntmps77
  go_wp2_with (first
    | (refine step_box rfl _ rfl p rfl ?_; intro b3 w1 N R; have HG3 := Lib.hid (Nat.le_of_eq N.at_.symm); have HR3 := Lib.hid R; have HB := Lib.hid N.below; clear N R)
    | (refine blk_box rfl 67 _ rfl (arrA 8 .u8 r) rfl ?_; intro b5 w1 N R; have HD5 := Lib.hid (show b5 ≠ b3 by have := N.at_; have := HR3.out.lt; omega); have HR3 := Lib.hid (N.row3 HR3.out); have HR5 := Lib.hid R; have HB := Lib.hid (below_on HB.out N.below); clear N R)
    | (refine step_alloc rfl rfl ?_; intro b6 w1 N R; have HG6 := Lib.hid (show w.heap.size ≤ b6 by have := N.at_; have := HB.out.size; omega); have HD6 := Lib.hid (show b6 ≠ b3 by have := N.at_; have := HR3.out.lt; omega); have HR3 := Lib.hid (N.row3 HR3.out); have HR5 := Lib.hid (HR5.out.later N.below); have HR6 := Lib.hid R; have HB := Lib.hid (below_on HB.out N.below); clear N R)
    | (refine arr_load rfl 67 _ rfl b5 rfl 8 .u8 r HR5.out _ Tryz.underlying67 rfl size58 ?_))
  go_loopw [14] (fun i wr => ∃ k : Nat, k ≤ 8 ∧ i = .int .i64 (k : Int) ∧ Row wr b3 (armyN p 0 1 0 r k) ∧ Blk wr b5 67 (arrA 8 .u8 r) ∧ Row wr b6 zeroP ∧ Below w.heap.size w wr) (fun i _ => 8 - (intOf i).toNat)
  case atStart => exact ⟨0, by omega, rfl, HR3.out, HR5.out, HR6.out, HB.out⟩
  case round =>
    clear HR3 HR5 HR6 HB
    obtain ⟨k, hk, rfl, h3, h5, h6, hb⟩ := hrel
    have HR3 := Lib.hid h3
    have HR5 := Lib.hid h5
    have HR6 := Lib.hid h6
    have HB := Lib.hid hb
    clear h3 h5 h6 hb
    by_cases hlt : k < 8
    · obtain ⟨n, hn, hy⟩ := HV.out k hlt
      have Hy := Lib.hid hy
      clear hy
      obtain ⟨s1, Hs1⟩ : ∃ s, Hid (8 * 0 + k = s) := ⟨_, Lib.hid rfl⟩
      obtain ⟨s2, Hs2⟩ : ∃ s, Hid (8 * 1 + k = s) := ⟨_, Lib.hid rfl⟩
      obtain ⟨m1, Hm1⟩ : ∃ s, Hid (8 * 0 + n = s) := ⟨_, Lib.hid rfl⟩
      obtain ⟨m2, Hm2⟩ : ∃ s, Hid (8 * 0 + 1 = s) := ⟨_, Lib.hid rfl⟩
      have l1 : s1 < 64 := by have := Hs1.out; omega
      have l2 : s2 < 64 := by have := Hs2.out; omega
      have HK1 := Lib.hid (kAt_board (Nat.zero_le _) l1)
      have HK2 := Lib.hid (kAt_board (Nat.zero_le _) l2)
      have HN : Hid (armyN p 0 1 0 r (k + 1) = upd (upd (armyN p 0 1 0 r k) (1 + s1) (m1 : Int)) (1 + s2) (m2 : Int)) := Lib.hid (by
        show upd (upd _ _ _) _ _ = _
        have e1 := Hm1.out
        have e2 := Hm2.out
        rw [Hs1.out, Hs2.out, Hy.out, show (8 * ((0 : Nat) : Int) + (n : Int)) = (m1 : Int) by omega, show (8 * ((0 : Nat) : Int) + 1) = (m2 : Int) by omega])
      have l3 : (s1 : Int) < 64 := by omega
      have l4 : (s2 : Int) < 64 := by omega
      go_wp2_with (refine arr_index rfl 67 5 _ _ rfl 8 .u8 r rfl k rfl hlt Tryz.underlying67 Tryz.underlying5 size5 ?_; rw [Hy.out])
      refine (square_any k 0 _ hlt (by omega)).mono ?_; rintro e wn ⟨rfl, rfl⟩; rw [Hs1.out]
      go_wp2_with fail
      refine (man_any 0 n _ (by omega) (by omega)).mono ?_; rintro e wn ⟨rfl, rfl⟩; rw [Hm1.out]
      go_wp2_with (refine step_cell rfl 5 _ _ rfl b3 (1 + s1) rfl .u8 (m1 : Int) rfl _ HR3.out (by omega) HK1.out size5 ?_; intro w2 U R; have HR5 := Lib.hid (HR5.out.apart U HD5.out); have HR6 := Lib.hid (HR6.out.apart U HD6.out); have HR3 := Lib.hid R; have HB := Lib.hid (HB.out.trans (U.below HG3.out)); clear U R)
      refine (square_any k 1 _ hlt (by omega)).mono ?_; rintro e wn ⟨rfl, rfl⟩; rw [Hs2.out]
      go_wp2_with fail
      refine (man_any 0 1 _ (by omega) (by omega)).mono ?_; rintro e wn ⟨rfl, rfl⟩; rw [Hm2.out]
      go_wp2_with (refine step_cell rfl 5 _ _ rfl b3 (1 + s2) rfl .u8 (m2 : Int) rfl _ HR3.out (by omega) HK2.out size5 ?_; intro w2 U R; have HR5 := Lib.hid (HR5.out.apart U HD5.out); have HR6 := Lib.hid (HR6.out.apart U HD6.out); have HR3 := Lib.hid R; have HB := Lib.hid (HB.out.trans (U.below HG3.out)); clear U R)
      go_roundw
      case rel => exact ⟨k + 1, by omega, by go_num, by rw [HN.out]; exact HR3.out, HR5.out, HR6.out, HB.out⟩
      case measure => simp [intOf]; omega
    · obtain rfl : k = 8 := by omega
      have hc0 := HR3.out.cell 0 (by omega)
      rw [armyN_zero, HP.out, show kAt 0 = .u8 from rfl] at hc0
      obtain ⟨q, Hq⟩ : ∃ q, Hid (armyN p 0 1 0 r 8 = q) := ⟨_, Lib.hid rfl⟩
      rw [Hq.out] at HR3
      go_wp2_with fail
      refine (cas_any v _ hv (HT.out.on HB.out)).mono ?_; rintro e wn ⟨rfl, hb⟩; have HR3 := Lib.hid (HR3.out.later hb); have HR5 := Lib.hid (HR5.out.later hb); have HR6 := Lib.hid (HR6.out.later hb); have HB := Lib.hid (below_on HB.out hb); clear hb hc0
      cases hcas : casB v
      · have HE := Lib.hid (show armyP v p 0 r = q by unfold armyP; rw [hcas]; exact Hq.out)
        go_wp2_with (first
          | (refine step_load rfl _ rfl b3 rfl q HR3.out ?_)
          | (refine step_store rfl _ _ rfl b6 rfl _ q rfl HR6.out ?_; intro w2 U R; have HR6 := Lib.hid R; have HB := Lib.hid (HB.out.trans (U.below HG6.out)); clear U R))
        refine bodyPost_ret (v := .agg (posA q)) (results_row rfl _ _ _ _ rfl HR6.out) rfl ⟨by rw [HE.out], HB.out⟩
      · have HE := Lib.hid (show armyP v p 0 r = rookP q 79 (rf0 r 8) (rf1 r 8) by unfold armyP; rw [hcas, ← Hq.out]; rfl)
        obtain ⟨z0, Hz0⟩ : ∃ z, Hid (rf0 r 8 = z) := ⟨_, Lib.hid rfl⟩
        obtain ⟨z1, Hz1⟩ : ∃ z, Hid (rf1 r 8 = z) := ⟨_, Lib.hid rfl⟩
        go_wp2_with (refine arr_load rfl 67 _ rfl b5 rfl 8 .u8 r HR5.out _ Tryz.underlying67 rfl size58 ?_)
        refine (rooks_any r _).mono ?_; rintro e wn ⟨rfl, hb⟩; have HR3 := Lib.hid (HR3.out.later hb); have HR6 := Lib.hid (HR6.out.later hb); have HB := Lib.hid (below_on HB.out hb); clear hb; rw [Hz0.out, Hz1.out]
        go_wp2_with (first
          | (refine step_write rfl 27 _ _ rfl b3 79 2 rfl _ (rookP zeroP 79 z0 z1) (rook_val0 z0 z1) HR3.out (by omega) size35 ?_; intro w2 U R; rw [over_two] at R; have HR6 := Lib.hid (HR6.out.apart U HD6.out); have HR3 := Lib.hid R; have HB := Lib.hid (HB.out.trans (U.below HG3.out)); clear U R)
          | (refine step_load rfl _ rfl b3 rfl (rookP q 79 z0 z1) ?_ ?_; exact HR3.out)
          | (refine step_store rfl _ _ rfl b6 rfl _ (rookP q 79 z0 z1) rfl HR6.out ?_; intro w2 U R; have HR6 := Lib.hid R; have HB := Lib.hid (HB.out.trans (U.below HG6.out)); clear U R))
        refine bodyPost_ret (v := .agg (posA (rookP q 79 z0 z1))) (results_row rfl _ _ _ _ rfl HR6.out) rfl ⟨by rw [HE.out, Hz0.out, Hz1.out], HB.out⟩
set_option maxRecDepth 100000 in
set_option maxHeartbeats 2000000 in
theorem army1_any (v : Nat) (p r : Nat → Int) (w : World) (hv : v ≤ 255) (hp : p 0 = (v : Int)) (hr : Kinds15 r) (hT : TabVar w) :
    Calls Tryz.prog 77 #[.agg (posA p), .int .u8 1, .agg (arrA 8 .u8 r)] w (PosL (armyP v p 1 r) w) := by
  have HT := Lib.hid hT
  have HV := Lib.hid hr
  have HP := Lib.hid hp
  clear hT hr hp
  go_enter Tryz.func77, Tryz.ntmps77
  go_wp2_with (first
    | (refine step_box rfl _ rfl p rfl ?_; intro b3 w1 N R; have HG3 := Lib.hid (Nat.le_of_eq N.at_.symm); have HR3 := Lib.hid R; have HB := Lib.hid N.below; clear N R)
    | (refine blk_box rfl 67 _ rfl (arrA 8 .u8 r) rfl ?_; intro b5 w1 N R; have HD5 := Lib.hid (show b5 ≠ b3 by have := N.at_; have := HR3.out.lt; omega); have HR3 := Lib.hid (N.row3 HR3.out); have HR5 := Lib.hid R; have HB := Lib.hid (below_on HB.out N.below); clear N R)
    | (refine step_alloc rfl rfl ?_; intro b6 w1 N R; have HG6 := Lib.hid (show w.heap.size ≤ b6 by have := N.at_; have := HB.out.size; omega); have HD6 := Lib.hid (show b6 ≠ b3 by have := N.at_; have := HR3.out.lt; omega); have HR3 := Lib.hid (N.row3 HR3.out); have HR5 := Lib.hid (HR5.out.later N.below); have HR6 := Lib.hid R; have HB := Lib.hid (below_on HB.out N.below); clear N R)
    | (refine arr_load rfl 67 _ rfl b5 rfl 8 .u8 r HR5.out _ Tryz.underlying67 rfl size58 ?_))
  go_loopw [14] (fun i wr => ∃ k : Nat, k ≤ 8 ∧ i = .int .i64 (k : Int) ∧ Row wr b3 (armyN p 7 6 1 r k) ∧ Blk wr b5 67 (arrA 8 .u8 r) ∧ Row wr b6 zeroP ∧ Below w.heap.size w wr) (fun i _ => 8 - (intOf i).toNat)
  case atStart => exact ⟨0, by omega, rfl, HR3.out, HR5.out, HR6.out, HB.out⟩
  case round =>
    clear HR3 HR5 HR6 HB
    obtain ⟨k, hk, rfl, h3, h5, h6, hb⟩ := hrel
    have HR3 := Lib.hid h3
    have HR5 := Lib.hid h5
    have HR6 := Lib.hid h6
    have HB := Lib.hid hb
    clear h3 h5 h6 hb
    by_cases hlt : k < 8
    · obtain ⟨n, hn, hy⟩ := HV.out k hlt
      have Hy := Lib.hid hy
      clear hy
      obtain ⟨s1, Hs1⟩ : ∃ s, Hid (8 * 7 + k = s) := ⟨_, Lib.hid rfl⟩
      obtain ⟨s2, Hs2⟩ : ∃ s, Hid (8 * 6 + k = s) := ⟨_, Lib.hid rfl⟩
      obtain ⟨m1, Hm1⟩ : ∃ s, Hid (8 * 1 + n = s) := ⟨_, Lib.hid rfl⟩
      obtain ⟨m2, Hm2⟩ : ∃ s, Hid (8 * 1 + 1 = s) := ⟨_, Lib.hid rfl⟩
      have l1 : s1 < 64 := by have := Hs1.out; omega
      have l2 : s2 < 64 := by have := Hs2.out; omega
      have HK1 := Lib.hid (kAt_board (Nat.zero_le _) l1)
      have HK2 := Lib.hid (kAt_board (Nat.zero_le _) l2)
      have HN : Hid (armyN p 7 6 1 r (k + 1) = upd (upd (armyN p 7 6 1 r k) (1 + s1) (m1 : Int)) (1 + s2) (m2 : Int)) := Lib.hid (by
        show upd (upd _ _ _) _ _ = _
        have e1 := Hm1.out
        have e2 := Hm2.out
        rw [Hs1.out, Hs2.out, Hy.out, show (8 * ((1 : Nat) : Int) + (n : Int)) = (m1 : Int) by omega, show (8 * ((1 : Nat) : Int) + 1) = (m2 : Int) by omega])
      have l3 : (s1 : Int) < 64 := by omega
      have l4 : (s2 : Int) < 64 := by omega
      go_wp2_with (refine arr_index rfl 67 5 _ _ rfl 8 .u8 r rfl k rfl hlt Tryz.underlying67 Tryz.underlying5 size5 ?_; rw [Hy.out])
      refine (square_any k 7 _ hlt (by omega)).mono ?_; rintro e wn ⟨rfl, rfl⟩; rw [Hs1.out]
      go_wp2_with fail
      refine (man_any 1 n _ (by omega) (by omega)).mono ?_; rintro e wn ⟨rfl, rfl⟩; rw [Hm1.out]
      go_wp2_with (refine step_cell rfl 5 _ _ rfl b3 (1 + s1) rfl .u8 (m1 : Int) rfl _ HR3.out (by omega) HK1.out size5 ?_; intro w2 U R; have HR5 := Lib.hid (HR5.out.apart U HD5.out); have HR6 := Lib.hid (HR6.out.apart U HD6.out); have HR3 := Lib.hid R; have HB := Lib.hid (HB.out.trans (U.below HG3.out)); clear U R)
      refine (square_any k 6 _ hlt (by omega)).mono ?_; rintro e wn ⟨rfl, rfl⟩; rw [Hs2.out]
      go_wp2_with fail
      refine (man_any 1 1 _ (by omega) (by omega)).mono ?_; rintro e wn ⟨rfl, rfl⟩; rw [Hm2.out]
      go_wp2_with (refine step_cell rfl 5 _ _ rfl b3 (1 + s2) rfl .u8 (m2 : Int) rfl _ HR3.out (by omega) HK2.out size5 ?_; intro w2 U R; have HR5 := Lib.hid (HR5.out.apart U HD5.out); have HR6 := Lib.hid (HR6.out.apart U HD6.out); have HR3 := Lib.hid R; have HB := Lib.hid (HB.out.trans (U.below HG3.out)); clear U R)
      go_roundw
      case rel => exact ⟨k + 1, by omega, by go_num, by rw [HN.out]; exact HR3.out, HR5.out, HR6.out, HB.out⟩
      case measure => simp [intOf]; omega
    · obtain rfl : k = 8 := by omega
      have hc0 := HR3.out.cell 0 (by omega)
      rw [armyN_zero, HP.out, show kAt 0 = .u8 from rfl] at hc0
      obtain ⟨q, Hq⟩ : ∃ q, Hid (armyN p 7 6 1 r 8 = q) := ⟨_, Lib.hid rfl⟩
      rw [Hq.out] at HR3
      go_wp2_with fail
      refine (cas_any v _ hv (HT.out.on HB.out)).mono ?_; rintro e wn ⟨rfl, hb⟩; have HR3 := Lib.hid (HR3.out.later hb); have HR5 := Lib.hid (HR5.out.later hb); have HR6 := Lib.hid (HR6.out.later hb); have HB := Lib.hid (below_on HB.out hb); clear hb hc0
      cases hcas : casB v
      · have HE := Lib.hid (show armyP v p 1 r = q by unfold armyP; rw [hcas]; exact Hq.out)
        go_wp2_with (first
          | (refine step_load rfl _ rfl b3 rfl q HR3.out ?_)
          | (refine step_store rfl _ _ rfl b6 rfl _ q rfl HR6.out ?_; intro w2 U R; have HR6 := Lib.hid R; have HB := Lib.hid (HB.out.trans (U.below HG6.out)); clear U R))
        refine bodyPost_ret (v := .agg (posA q)) (results_row rfl _ _ _ _ rfl HR6.out) rfl ⟨by rw [HE.out], HB.out⟩
      · have HE := Lib.hid (show armyP v p 1 r = rookP q 81 (rf0 r 8) (rf1 r 8) by unfold armyP; rw [hcas, ← Hq.out]; rfl)
        obtain ⟨z0, Hz0⟩ : ∃ z, Hid (rf0 r 8 = z) := ⟨_, Lib.hid rfl⟩
        obtain ⟨z1, Hz1⟩ : ∃ z, Hid (rf1 r 8 = z) := ⟨_, Lib.hid rfl⟩
        go_wp2_with (refine arr_load rfl 67 _ rfl b5 rfl 8 .u8 r HR5.out _ Tryz.underlying67 rfl size58 ?_)
        refine (rooks_any r _).mono ?_; rintro e wn ⟨rfl, hb⟩; have HR3 := Lib.hid (HR3.out.later hb); have HR6 := Lib.hid (HR6.out.later hb); have HB := Lib.hid (below_on HB.out hb); clear hb; rw [Hz0.out, Hz1.out]
        go_wp2_with (first
          | (refine step_write rfl 27 _ _ rfl b3 81 2 rfl _ (rookP zeroP 81 z0 z1) (rook_val1 z0 z1) HR3.out (by omega) size35 ?_; intro w2 U R; rw [over_two] at R; have HR6 := Lib.hid (HR6.out.apart U HD6.out); have HR3 := Lib.hid R; have HB := Lib.hid (HB.out.trans (U.below HG3.out)); clear U R)
          | (refine step_load rfl _ rfl b3 rfl (rookP q 81 z0 z1) ?_ ?_; exact HR3.out)
          | (refine step_store rfl _ _ rfl b6 rfl _ (rookP q 81 z0 z1) rfl HR6.out ?_; intro w2 U R; have HR6 := Lib.hid R; have HB := Lib.hid (HB.out.trans (U.below HG6.out)); clear U R))
        refine bodyPost_ret (v := .agg (posA (rookP q 81 z0 z1))) (results_row rfl _ _ _ _ rfl HR6.out) rfl ⟨by rw [HE.out, Hz0.out, Hz1.out], HB.out⟩
end Go.Proofs.YtjbfjohgfbipgaaGreatDoor
