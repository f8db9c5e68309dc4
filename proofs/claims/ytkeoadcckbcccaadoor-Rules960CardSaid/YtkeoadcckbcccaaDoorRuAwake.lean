/-
  Layer 7's awake; contracts at known answers.
-/
import Derived.Test.YtkeoadcckbcccaaDoorRuEq
namespace Go.Proofs.YtkeoadcckbcccaaDoor
open Go.RowKit
set_option linter.unusedVariables false
set_option linter.unusedSimpArgs false
theorem posN_zero (n : Nat) : posN n 0 = 1 := by
  show bothP 1 (rowZ n) 0 = 1
  rw [both_lin _ 0 (by omega)]; rfl
theorem posN_up (n j : Nat) (hj : j < 8) : posN n (1 + j) = (((rowL n).getD j 0 : Nat) : Int) := by
  show bothP 1 (rowZ n) (1 + j) = _
  rw [both_lin _ _ (by omega), ← (rowZ_rep n).at_ j hj]
  unfold linG upR
  rw [if_neg (by omega), if_pos (by omega), show 1 + j - 1 = j by omega]
  simp
theorem row_0 : rowL 0 = [3, 3, 5, 2, 2, 4, 6, 4] := by decide +kernel
theorem by_7 (w : World) (hT : TabVar w) : Calls Tryd.prog 10 #[.string ⟨#[104, 111, 114, 100, 101]⟩] w (PairL 7 true w) := by
  have := byname_any (nmZ 7) w hT
  rw [by_name (by omega)] at this
  exact this
theorem by_chess : byK ⟨#[99, 104, 101, 115, 115]⟩ 9 = none := by decide +kernel
theorem by_no (w : World) (hT : TabVar w) : Calls Tryd.prog 10 #[.string ⟨#[99, 104, 101, 115, 115]⟩] w (PairL 0 false w) := by
  have := byname_any ⟨#[99, 104, 101, 115, 115]⟩ w hT
  rw [by_chess] at this
  exact this
theorem name_8 (w : World) (hT : TabVar w) : Calls Tryd.prog 11 #[.int .u8 8] w (StL ⟨#[114, 97, 99, 105, 110, 103]⟩ w) := name_any 8 w (by omega) hT
theorem name_9 (w : World) (hT : TabVar w) : Calls Tryd.prog 11 #[.int .u8 9] w (StL ⟨#[]⟩ w) := name_any 9 w (by omega) hT
theorem royal_70 (w : World) (hT : TabVar w) : Calls Tryd.prog 14 #[.int .u8 7, .int .u8 0] w (BoL false w) := royal_any 7 0 w (by omega) hT
theorem royal_71 (w : World) (hT : TabVar w) : Calls Tryd.prog 14 #[.int .u8 7, .int .u8 1] w (BoL true w) := royal_any 7 1 w (by omega) hT
theorem prom_4 (w : World) (hT : TabVar w) : Calls Tryd.prog 12 #[.int .u8 4] w (ListK .u8 5 (upN 5) w) := prom_any 4 w (by omega) hT
set_option maxRecDepth 100000 in
set_option maxHeartbeats 2000000 in
theorem rawake_any (w : World) (hT : TabVar w) (hK : TabKn w) : Calls Tryd.prog 26 #[] w (BoL true w) := by
  have HT := Lib.hid hT
  have HK := Lib.hid hK
  clear hT hK
  obtain ⟨p, Hp⟩ : ∃ p, Hid (posN 0 = p) := ⟨_, Lib.hid rfl⟩
  have HC := Lib.hid (show ∀ j, j < 8 → p (1 + j) = (([3, 3, 5, 2, 2, 4, 6, 4].getD j 0 : Nat) : Int) by rw [← Hp.out, ← row_0]; exact fun j hj => posN_up 0 j hj)
  go_enter Tryd.func26, Tryd.ntmps26
  go_wp2_with fail
  refine (by_7 _ HT.out).mono ?_; rintro e wn ⟨rfl, hb⟩; have HB := Lib.hid hb; clear hb
  go_wp2_with fail
  refine (by_no _ (HT.out.on HB.out)).mono ?_; rintro e wn ⟨rfl, hb⟩; have HB := Lib.hid (below_on HB.out hb); clear hb
  go_wp2_with fail
  refine (start960_any 0 _ (by omega) (HT.out.on HB.out) (HK.out.on HB.out)).mono ?_; rintro e wn ⟨rfl, hb⟩; have HB := Lib.hid (below_on HB.out hb); clear hb
  rw [Hp.out]
  go_wp2_with (first
    | (refine step_alloc rfl rfl ?_; intro b5 wn N R; have HG5 := Lib.hid (show w.heap.size ≤ b5 by have := N.at_; have := HB.out.size; omega); have HR5 := Lib.hid R; have HB := Lib.hid (below_on HB.out N.below); clear N R)
    | (refine step_store rfl _ _ rfl b5 rfl zeroP p rfl ?_ ?_; exact HR5.out; intro w2 U R; have HR5 := Lib.hid R; have HB := Lib.hid (HB.out.trans (U.below HG5.out)); clear U R))
  refine (prom_4 _ (HT.out.on HB.out)).mono ?_; rintro e wn ⟨u, rfl, hl, hb⟩
  obtain ⟨g, cap, cur, L0⟩ := listedK_open hl (by decide)
  obtain rfl := L0.val
  have HL := Lib.hid L0
  have HR5 := Lib.hid (HR5.out.later hb); have HB := Lib.hid (below_on HB.out hb)
  clear hl hb L0
  rw [show (upN 5).length = 5 from rfl]
  go_wp2_with fail
  refine (name_8 _ (HT.out.on HB.out)).mono ?_; rintro e wn ⟨rfl, hb⟩; have HL := Lib.hid (HL.out.later hb); have HR5 := Lib.hid (HR5.out.later hb); have HB := Lib.hid (below_on HB.out hb); clear hb
  go_wp2_with fail
  refine (name_9 _ (HT.out.on HB.out)).mono ?_; rintro e wn ⟨rfl, hb⟩; have HL := Lib.hid (HL.out.later hb); have HR5 := Lib.hid (HR5.out.later hb); have HB := Lib.hid (below_on HB.out hb); clear hb
  go_wp2_with fail
  refine (royal_70 _ (HT.out.on HB.out)).mono ?_; rintro e wn ⟨rfl, hb⟩; have HL := Lib.hid (HL.out.later hb); have HR5 := Lib.hid (HR5.out.later hb); have HB := Lib.hid (below_on HB.out hb); clear hb
  go_wp2_with fail
  refine (royal_71 _ (HT.out.on HB.out)).mono ?_; rintro e wn ⟨rfl, hb⟩; have HL := Lib.hid (HL.out.later hb); have HR5 := Lib.hid (HR5.out.later hb); have HB := Lib.hid (below_on HB.out hb); clear hb
  have hl4 : _ = some (Value.int .u8 6) := HL.out.cell 4 (by decide)
  have hc0 : wn.cell? ⟨b5, 1, none⟩ = some (Value.int .u8 3) := by have h := HR5.out.cell 1 (by omega); rwa [show p 1 = 3 from HC.out 0 (by omega)] at h
  have hc1 : wn.cell? ⟨b5, 2, none⟩ = some (Value.int .u8 3) := by have h := HR5.out.cell 2 (by omega); rwa [show p 2 = 3 from HC.out 1 (by omega)] at h
  have hc2 : wn.cell? ⟨b5, 3, none⟩ = some (Value.int .u8 5) := by have h := HR5.out.cell 3 (by omega); rwa [show p 3 = 5 from HC.out 2 (by omega)] at h
  have hc3 : wn.cell? ⟨b5, 4, none⟩ = some (Value.int .u8 2) := by have h := HR5.out.cell 4 (by omega); rwa [show p 4 = 2 from HC.out 3 (by omega)] at h
  have hc5 : wn.cell? ⟨b5, 6, none⟩ = some (Value.int .u8 4) := by have h := HR5.out.cell 6 (by omega); rwa [show p 6 = 4 from HC.out 5 (by omega)] at h
  have hc6 : wn.cell? ⟨b5, 7, none⟩ = some (Value.int .u8 6) := by have h := HR5.out.cell 7 (by omega); rwa [show p 7 = 6 from HC.out 6 (by omega)] at h
  go_wp2_with fail
  go_ret
  exact ⟨rfl, HB.out⟩
end Go.Proofs.YtkeoadcckbcccaaDoor
