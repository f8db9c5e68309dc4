/-
  Contract of the program's test of a position that can be written (layer 10).
-/
import Derived.Test.YtjbfjohgfbipgaaGreatDoorFpBaseA
import Derived.Test.YtjbfjohgfbipgaaGreatDoorFpBaseB
namespace Go.Proofs.YtjbfjohgfbipgaaGreatDoor
open Go.RowKit
set_option linter.unusedVariables false
set_option linter.unusedSimpArgs false

theorem allB_two {f : Nat → Bool} : allB f 2 = (f 0 && f 1) := by simp [allB]
theorem can_eq (p : Nat → Int) : wrB p = (decide (p 0 < 9) && (decide (p 78 ≤ 1) && ((decide (-1 ≤ p 83) && decide (p 83 < 64)) && ((decide (0 ≤ p 86) && decide (p 86 ≤ 10000)) && ((decide (0 ≤ p 87) && decide (p 87 ≤ 10000)) && (allB (wrS p) 64 && (pkAll p && (ckAll p && roAll p)))))))) := by
  have hh : wrH p = (decide (p 0 < 9) && (decide (p 78 ≤ 1) && ((decide (-1 ≤ p 83) && decide (p 83 < 64)) && ((decide (0 ≤ p 86) && decide (p 86 ≤ 10000)) && (decide (0 ≤ p 87) && decide (p 87 ≤ 10000)))))) := by
    unfold wrH
    rw [Bool.eq_iff_iff]
    simp only [Bool.not_eq_true', Bool.or_eq_false_iff, decide_eq_false_iff_not, Bool.and_eq_true, decide_eq_true_eq]
    omega
  unfold wrB
  rw [hh, allB_two (f := wrC p)]
  unfold wrC pkAll ckAll roAll
  rw [allB_two (f := fun c => allB (wrR p c) 2), Bool.eq_iff_iff]
  simp only [Bool.and_eq_true]
  constructor
  · rintro ⟨⟨⟨h1, h2, h3, h4, h5⟩, h6⟩, ⟨⟨h7, h8⟩, h9⟩, ⟨h10, h11⟩, h12⟩
    exact ⟨h1, h2, h3, h4, h5, h6, ⟨h7, h10⟩, ⟨h8, h11⟩, h9, h12⟩
  · rintro ⟨h1, h2, h3, h4, h5, h6, ⟨h7, h10⟩, ⟨h8, h11⟩, h9, h12⟩
    exact ⟨⟨⟨h1, h2, h3, h4, h5⟩, h6⟩, ⟨⟨h7, h8⟩, h9⟩, ⟨h10, h11⟩, h12⟩
set_option maxRecDepth 100000 in
set_option maxHeartbeats 4000000 in
theorem canBe_any (p : Nat → Int) (w : World) (hp : FitF p) (hT : TabVar w) : Calls Tryz.prog 15 #[.agg (posA p)] w (BoL (wrB p) w) := by
  have HP := Lib.hid hp
  have HT := Lib.hid hT
  obtain ⟨b, hb⟩ : ∃ b, wrB p = b := ⟨_, rfl⟩
  rw [hb]
  have he := can_eq p
  rw [hb] at he
  obtain ⟨x0, hx0⟩ : ∃ x0, p 0 = x0 := ⟨_, rfl⟩
  obtain ⟨x78, hx78⟩ : ∃ x78, p 78 = x78 := ⟨_, rfl⟩
  obtain ⟨x83, hx83⟩ : ∃ x83, p 83 = x83 := ⟨_, rfl⟩
  obtain ⟨x86, hx86⟩ : ∃ x86, p 86 = x86 := ⟨_, rfl⟩
  obtain ⟨x87, hx87⟩ : ∃ x87, p 87 = x87 := ⟨_, rfl⟩
  have HCs := Lib.hid (fun (W : World) (b1 : Nat) (h : Row W b1 p) => show W.cell? ⟨b1, 0, none⟩ = some (.int .u8 x0) ∧ W.cell? ⟨b1, 78, none⟩ = some (.int .u8 x78) ∧ W.cell? ⟨b1, 83, none⟩ = some (.int .i8 x83) ∧ W.cell? ⟨b1, 86, none⟩ = some (.int .i64 x86) ∧ W.cell? ⟨b1, 87, none⟩ = some (.int .i64 x87) from
    ⟨by rw [h.cell 0 (by decide), hx0]; rfl, by rw [h.cell 78 (by decide), hx78]; rfl, by rw [h.cell 83 (by decide), hx83]; rfl, by rw [h.cell 86 (by decide), hx86]; rfl, by rw [h.cell 87 (by decide), hx87]; rfl⟩)
  rw [hx0, hx78, hx83, hx86, hx87] at he
  clear hb hp hT hx0 hx78 hx83 hx86 hx87
  obtain ⟨c3, hc3⟩ : ∃ c3, (decide (-1 ≤ x83) && decide (x83 < 64)) = c3 := ⟨_, rfl⟩
  have HC3 := Lib.hid hc3
  rw [hc3] at he
  obtain ⟨c4, hc4⟩ : ∃ c4, (decide (0 ≤ x86) && decide (x86 ≤ 10000)) = c4 := ⟨_, rfl⟩
  have HC4 := Lib.hid hc4
  rw [hc4] at he
  obtain ⟨c5, hc5⟩ : ∃ c5, (decide (0 ≤ x87) && decide (x87 ≤ 10000)) = c5 := ⟨_, rfl⟩
  have HC5 := Lib.hid hc5
  rw [hc5] at he
  obtain ⟨c6, hc6⟩ : ∃ c6, allB (wrS p) 64 = c6 := ⟨_, rfl⟩
  have HC6 := Lib.hid hc6
  rw [hc6] at he
  obtain ⟨c7, hc7⟩ : ∃ c7, pkAll p = c7 := ⟨_, rfl⟩
  have HC7 := Lib.hid hc7
  rw [hc7] at he
  obtain ⟨c8, hc8⟩ : ∃ c8, ckAll p = c8 := ⟨_, rfl⟩
  have HC8 := Lib.hid hc8
  rw [hc8] at he
  obtain ⟨c9, hc9⟩ : ∃ c9, roAll p = c9 := ⟨_, rfl⟩
  have HC9 := Lib.hid hc9
  rw [hc9] at he
  clear hc3 hc4 hc5 hc6 hc7 hc8 hc9
  cases g0 : decide (x0 < 9)
  · skip
    have HE := Lib.hid (show false = b by rw [he]; simp [g0])
    clear he
    go_enter Tryz.func15, Tryz.ntmps15
    go_wp2_with (first
        | (refine step_box rfl _ rfl p rfl ?_; intro b1 w1 N R; have HB := Lib.hid N.below; have HR := Lib.hid R; obtain ⟨k0, k78, k83, k86, k87⟩ := HCs.out _ _ R; clear N R)
        | (refine step_load rfl _ rfl b1 rfl p HR.out ?_)
        | (go_at_call 27; refine (isPassing_any _ _).mono ?_; rintro e w' ⟨rfl, rfl⟩; rw [HC3.out])
        | (go_at_call 28; refine (isClock_any _ _).mono ?_; rintro e w' ⟨rfl, rfl⟩; first | rw [HC4.out] | rw [HC5.out])
        | (go_at_call 29; refine (boardCan_any p _ HP.out (HT.out.on HB.out)).mono ?_; rintro e w' ⟨rfl, hb9⟩; rw [HC6.out]; have HB := Lib.hid (below_on HB.out hb9); have HR := Lib.hid (HR.out.later hb9); clear hb9 k0 k78 k83 k86 k87; obtain ⟨k0, k78, k83, k86, k87⟩ := HCs.out _ _ HR.out)
        | (go_at_call 30; refine (pocketsCan_any p _ HP.out.pock HP.out.var (HT.out.on HB.out)).mono ?_; rintro e w' ⟨rfl, hb9⟩; rw [HC7.out]; have HB := Lib.hid (below_on HB.out hb9); have HR := Lib.hid (HR.out.later hb9); clear hb9 k0 k78 k83 k86 k87; obtain ⟨k0, k78, k83, k86, k87⟩ := HCs.out _ _ HR.out)
        | (go_at_call 31; refine (checksCan_any p _ (HP.out.chk 84 (by decide) (by decide)).1 (HP.out.chk 85 (by decide) (by decide)).1).mono ?_; rintro e w' ⟨rfl, hb9⟩; rw [HC8.out]; have HB := Lib.hid (below_on HB.out hb9); have HR := Lib.hid (HR.out.later hb9); clear hb9 k0 k78 k83 k86 k87; obtain ⟨k0, k78, k83, k86, k87⟩ := HCs.out _ _ HR.out)
        | (go_at_call 32; refine (rooksCan_any p _ HP.out.bd HP.out.rook).mono ?_; rintro e w' ⟨rfl, hb9⟩; rw [HC9.out]; have HB := Lib.hid (below_on HB.out hb9); have HR := Lib.hid (HR.out.later hb9); clear hb9 k0 k78 k83 k86 k87; obtain ⟨k0, k78, k83, k86, k87⟩ := HCs.out _ _ HR.out))
    go_ret
    exact ⟨pc_bool HE.out, HB.out⟩
  · skip
    cases g1 : decide (x78 ≤ 1)
    · skip
      have HE := Lib.hid (show false = b by rw [he]; simp [g0, g1])
      clear he
      go_enter Tryz.func15, Tryz.ntmps15
      go_wp2_with (first
          | (refine step_box rfl _ rfl p rfl ?_; intro b1 w1 N R; have HB := Lib.hid N.below; have HR := Lib.hid R; obtain ⟨k0, k78, k83, k86, k87⟩ := HCs.out _ _ R; clear N R)
          | (refine step_load rfl _ rfl b1 rfl p HR.out ?_)
          | (go_at_call 27; refine (isPassing_any _ _).mono ?_; rintro e w' ⟨rfl, rfl⟩; rw [HC3.out])
          | (go_at_call 28; refine (isClock_any _ _).mono ?_; rintro e w' ⟨rfl, rfl⟩; first | rw [HC4.out] | rw [HC5.out])
          | (go_at_call 29; refine (boardCan_any p _ HP.out (HT.out.on HB.out)).mono ?_; rintro e w' ⟨rfl, hb9⟩; rw [HC6.out]; have HB := Lib.hid (below_on HB.out hb9); have HR := Lib.hid (HR.out.later hb9); clear hb9 k0 k78 k83 k86 k87; obtain ⟨k0, k78, k83, k86, k87⟩ := HCs.out _ _ HR.out)
          | (go_at_call 30; refine (pocketsCan_any p _ HP.out.pock HP.out.var (HT.out.on HB.out)).mono ?_; rintro e w' ⟨rfl, hb9⟩; rw [HC7.out]; have HB := Lib.hid (below_on HB.out hb9); have HR := Lib.hid (HR.out.later hb9); clear hb9 k0 k78 k83 k86 k87; obtain ⟨k0, k78, k83, k86, k87⟩ := HCs.out _ _ HR.out)
          | (go_at_call 31; refine (checksCan_any p _ (HP.out.chk 84 (by decide) (by decide)).1 (HP.out.chk 85 (by decide) (by decide)).1).mono ?_; rintro e w' ⟨rfl, hb9⟩; rw [HC8.out]; have HB := Lib.hid (below_on HB.out hb9); have HR := Lib.hid (HR.out.later hb9); clear hb9 k0 k78 k83 k86 k87; obtain ⟨k0, k78, k83, k86, k87⟩ := HCs.out _ _ HR.out)
          | (go_at_call 32; refine (rooksCan_any p _ HP.out.bd HP.out.rook).mono ?_; rintro e w' ⟨rfl, hb9⟩; rw [HC9.out]; have HB := Lib.hid (below_on HB.out hb9); have HR := Lib.hid (HR.out.later hb9); clear hb9 k0 k78 k83 k86 k87; obtain ⟨k0, k78, k83, k86, k87⟩ := HCs.out _ _ HR.out))
      go_ret
      exact ⟨pc_bool HE.out, HB.out⟩
    · skip
      cases c3
      · skip
        have HE := Lib.hid (show false = b by rw [he]; simp [g0, g1])
        clear he
        go_enter Tryz.func15, Tryz.ntmps15
        go_wp2_with (first
            | (refine step_box rfl _ rfl p rfl ?_; intro b1 w1 N R; have HB := Lib.hid N.below; have HR := Lib.hid R; obtain ⟨k0, k78, k83, k86, k87⟩ := HCs.out _ _ R; clear N R)
            | (refine step_load rfl _ rfl b1 rfl p HR.out ?_)
            | (go_at_call 27; refine (isPassing_any _ _).mono ?_; rintro e w' ⟨rfl, rfl⟩; rw [HC3.out])
            | (go_at_call 28; refine (isClock_any _ _).mono ?_; rintro e w' ⟨rfl, rfl⟩; first | rw [HC4.out] | rw [HC5.out])
            | (go_at_call 29; refine (boardCan_any p _ HP.out (HT.out.on HB.out)).mono ?_; rintro e w' ⟨rfl, hb9⟩; rw [HC6.out]; have HB := Lib.hid (below_on HB.out hb9); have HR := Lib.hid (HR.out.later hb9); clear hb9 k0 k78 k83 k86 k87; obtain ⟨k0, k78, k83, k86, k87⟩ := HCs.out _ _ HR.out)
            | (go_at_call 30; refine (pocketsCan_any p _ HP.out.pock HP.out.var (HT.out.on HB.out)).mono ?_; rintro e w' ⟨rfl, hb9⟩; rw [HC7.out]; have HB := Lib.hid (below_on HB.out hb9); have HR := Lib.hid (HR.out.later hb9); clear hb9 k0 k78 k83 k86 k87; obtain ⟨k0, k78, k83, k86, k87⟩ := HCs.out _ _ HR.out)
            | (go_at_call 31; refine (checksCan_any p _ (HP.out.chk 84 (by decide) (by decide)).1 (HP.out.chk 85 (by decide) (by decide)).1).mono ?_; rintro e w' ⟨rfl, hb9⟩; rw [HC8.out]; have HB := Lib.hid (below_on HB.out hb9); have HR := Lib.hid (HR.out.later hb9); clear hb9 k0 k78 k83 k86 k87; obtain ⟨k0, k78, k83, k86, k87⟩ := HCs.out _ _ HR.out)
            | (go_at_call 32; refine (rooksCan_any p _ HP.out.bd HP.out.rook).mono ?_; rintro e w' ⟨rfl, hb9⟩; rw [HC9.out]; have HB := Lib.hid (below_on HB.out hb9); have HR := Lib.hid (HR.out.later hb9); clear hb9 k0 k78 k83 k86 k87; obtain ⟨k0, k78, k83, k86, k87⟩ := HCs.out _ _ HR.out))
        go_ret
        exact ⟨pc_bool HE.out, HB.out⟩
      · skip
        cases c4
        · skip
          have HE := Lib.hid (show false = b by rw [he]; simp [g0, g1])
          clear he
          go_enter Tryz.func15, Tryz.ntmps15
          go_wp2_with (first
              | (refine step_box rfl _ rfl p rfl ?_; intro b1 w1 N R; have HB := Lib.hid N.below; have HR := Lib.hid R; obtain ⟨k0, k78, k83, k86, k87⟩ := HCs.out _ _ R; clear N R)
              | (refine step_load rfl _ rfl b1 rfl p HR.out ?_)
              | (go_at_call 27; refine (isPassing_any _ _).mono ?_; rintro e w' ⟨rfl, rfl⟩; rw [HC3.out])
              | (go_at_call 28; refine (isClock_any _ _).mono ?_; rintro e w' ⟨rfl, rfl⟩; first | rw [HC4.out] | rw [HC5.out])
              | (go_at_call 29; refine (boardCan_any p _ HP.out (HT.out.on HB.out)).mono ?_; rintro e w' ⟨rfl, hb9⟩; rw [HC6.out]; have HB := Lib.hid (below_on HB.out hb9); have HR := Lib.hid (HR.out.later hb9); clear hb9 k0 k78 k83 k86 k87; obtain ⟨k0, k78, k83, k86, k87⟩ := HCs.out _ _ HR.out)
              | (go_at_call 30; refine (pocketsCan_any p _ HP.out.pock HP.out.var (HT.out.on HB.out)).mono ?_; rintro e w' ⟨rfl, hb9⟩; rw [HC7.out]; have HB := Lib.hid (below_on HB.out hb9); have HR := Lib.hid (HR.out.later hb9); clear hb9 k0 k78 k83 k86 k87; obtain ⟨k0, k78, k83, k86, k87⟩ := HCs.out _ _ HR.out)
              | (go_at_call 31; refine (checksCan_any p _ (HP.out.chk 84 (by decide) (by decide)).1 (HP.out.chk 85 (by decide) (by decide)).1).mono ?_; rintro e w' ⟨rfl, hb9⟩; rw [HC8.out]; have HB := Lib.hid (below_on HB.out hb9); have HR := Lib.hid (HR.out.later hb9); clear hb9 k0 k78 k83 k86 k87; obtain ⟨k0, k78, k83, k86, k87⟩ := HCs.out _ _ HR.out)
              | (go_at_call 32; refine (rooksCan_any p _ HP.out.bd HP.out.rook).mono ?_; rintro e w' ⟨rfl, hb9⟩; rw [HC9.out]; have HB := Lib.hid (below_on HB.out hb9); have HR := Lib.hid (HR.out.later hb9); clear hb9 k0 k78 k83 k86 k87; obtain ⟨k0, k78, k83, k86, k87⟩ := HCs.out _ _ HR.out))
          go_ret
          exact ⟨pc_bool HE.out, HB.out⟩
        · skip
          cases c5
          · skip
            have HE := Lib.hid (show false = b by rw [he]; simp [g0, g1])
            clear he
            go_enter Tryz.func15, Tryz.ntmps15
            go_wp2_with (first
                | (refine step_box rfl _ rfl p rfl ?_; intro b1 w1 N R; have HB := Lib.hid N.below; have HR := Lib.hid R; obtain ⟨k0, k78, k83, k86, k87⟩ := HCs.out _ _ R; clear N R)
                | (refine step_load rfl _ rfl b1 rfl p HR.out ?_)
                | (go_at_call 27; refine (isPassing_any _ _).mono ?_; rintro e w' ⟨rfl, rfl⟩; rw [HC3.out])
                | (go_at_call 28; refine (isClock_any _ _).mono ?_; rintro e w' ⟨rfl, rfl⟩; first | rw [HC4.out] | rw [HC5.out])
                | (go_at_call 29; refine (boardCan_any p _ HP.out (HT.out.on HB.out)).mono ?_; rintro e w' ⟨rfl, hb9⟩; rw [HC6.out]; have HB := Lib.hid (below_on HB.out hb9); have HR := Lib.hid (HR.out.later hb9); clear hb9 k0 k78 k83 k86 k87; obtain ⟨k0, k78, k83, k86, k87⟩ := HCs.out _ _ HR.out)
                | (go_at_call 30; refine (pocketsCan_any p _ HP.out.pock HP.out.var (HT.out.on HB.out)).mono ?_; rintro e w' ⟨rfl, hb9⟩; rw [HC7.out]; have HB := Lib.hid (below_on HB.out hb9); have HR := Lib.hid (HR.out.later hb9); clear hb9 k0 k78 k83 k86 k87; obtain ⟨k0, k78, k83, k86, k87⟩ := HCs.out _ _ HR.out)
                | (go_at_call 31; refine (checksCan_any p _ (HP.out.chk 84 (by decide) (by decide)).1 (HP.out.chk 85 (by decide) (by decide)).1).mono ?_; rintro e w' ⟨rfl, hb9⟩; rw [HC8.out]; have HB := Lib.hid (below_on HB.out hb9); have HR := Lib.hid (HR.out.later hb9); clear hb9 k0 k78 k83 k86 k87; obtain ⟨k0, k78, k83, k86, k87⟩ := HCs.out _ _ HR.out)
                | (go_at_call 32; refine (rooksCan_any p _ HP.out.bd HP.out.rook).mono ?_; rintro e w' ⟨rfl, hb9⟩; rw [HC9.out]; have HB := Lib.hid (below_on HB.out hb9); have HR := Lib.hid (HR.out.later hb9); clear hb9 k0 k78 k83 k86 k87; obtain ⟨k0, k78, k83, k86, k87⟩ := HCs.out _ _ HR.out))
            go_ret
            exact ⟨pc_bool HE.out, HB.out⟩
          · skip
            cases c6
            · skip
              have HE := Lib.hid (show false = b by rw [he]; simp [g0, g1])
              clear he
              go_enter Tryz.func15, Tryz.ntmps15
              go_wp2_with (first
                  | (refine step_box rfl _ rfl p rfl ?_; intro b1 w1 N R; have HB := Lib.hid N.below; have HR := Lib.hid R; obtain ⟨k0, k78, k83, k86, k87⟩ := HCs.out _ _ R; clear N R)
                  | (refine step_load rfl _ rfl b1 rfl p HR.out ?_)
                  | (go_at_call 27; refine (isPassing_any _ _).mono ?_; rintro e w' ⟨rfl, rfl⟩; rw [HC3.out])
                  | (go_at_call 28; refine (isClock_any _ _).mono ?_; rintro e w' ⟨rfl, rfl⟩; first | rw [HC4.out] | rw [HC5.out])
                  | (go_at_call 29; refine (boardCan_any p _ HP.out (HT.out.on HB.out)).mono ?_; rintro e w' ⟨rfl, hb9⟩; rw [HC6.out]; have HB := Lib.hid (below_on HB.out hb9); have HR := Lib.hid (HR.out.later hb9); clear hb9 k0 k78 k83 k86 k87; obtain ⟨k0, k78, k83, k86, k87⟩ := HCs.out _ _ HR.out)
                  | (go_at_call 30; refine (pocketsCan_any p _ HP.out.pock HP.out.var (HT.out.on HB.out)).mono ?_; rintro e w' ⟨rfl, hb9⟩; rw [HC7.out]; have HB := Lib.hid (below_on HB.out hb9); have HR := Lib.hid (HR.out.later hb9); clear hb9 k0 k78 k83 k86 k87; obtain ⟨k0, k78, k83, k86, k87⟩ := HCs.out _ _ HR.out)
                  | (go_at_call 31; refine (checksCan_any p _ (HP.out.chk 84 (by decide) (by decide)).1 (HP.out.chk 85 (by decide) (by decide)).1).mono ?_; rintro e w' ⟨rfl, hb9⟩; rw [HC8.out]; have HB := Lib.hid (below_on HB.out hb9); have HR := Lib.hid (HR.out.later hb9); clear hb9 k0 k78 k83 k86 k87; obtain ⟨k0, k78, k83, k86, k87⟩ := HCs.out _ _ HR.out)
                  | (go_at_call 32; refine (rooksCan_any p _ HP.out.bd HP.out.rook).mono ?_; rintro e w' ⟨rfl, hb9⟩; rw [HC9.out]; have HB := Lib.hid (below_on HB.out hb9); have HR := Lib.hid (HR.out.later hb9); clear hb9 k0 k78 k83 k86 k87; obtain ⟨k0, k78, k83, k86, k87⟩ := HCs.out _ _ HR.out))
              go_ret
              exact ⟨pc_bool HE.out, HB.out⟩
            · skip
              cases c7
              · skip
                have HE := Lib.hid (show false = b by rw [he]; simp [g0, g1])
                clear he
                go_enter Tryz.func15, Tryz.ntmps15
                go_wp2_with (first
                    | (refine step_box rfl _ rfl p rfl ?_; intro b1 w1 N R; have HB := Lib.hid N.below; have HR := Lib.hid R; obtain ⟨k0, k78, k83, k86, k87⟩ := HCs.out _ _ R; clear N R)
                    | (refine step_load rfl _ rfl b1 rfl p HR.out ?_)
                    | (go_at_call 27; refine (isPassing_any _ _).mono ?_; rintro e w' ⟨rfl, rfl⟩; rw [HC3.out])
                    | (go_at_call 28; refine (isClock_any _ _).mono ?_; rintro e w' ⟨rfl, rfl⟩; first | rw [HC4.out] | rw [HC5.out])
                    | (go_at_call 29; refine (boardCan_any p _ HP.out (HT.out.on HB.out)).mono ?_; rintro e w' ⟨rfl, hb9⟩; rw [HC6.out]; have HB := Lib.hid (below_on HB.out hb9); have HR := Lib.hid (HR.out.later hb9); clear hb9 k0 k78 k83 k86 k87; obtain ⟨k0, k78, k83, k86, k87⟩ := HCs.out _ _ HR.out)
                    | (go_at_call 30; refine (pocketsCan_any p _ HP.out.pock HP.out.var (HT.out.on HB.out)).mono ?_; rintro e w' ⟨rfl, hb9⟩; rw [HC7.out]; have HB := Lib.hid (below_on HB.out hb9); have HR := Lib.hid (HR.out.later hb9); clear hb9 k0 k78 k83 k86 k87; obtain ⟨k0, k78, k83, k86, k87⟩ := HCs.out _ _ HR.out)
                    | (go_at_call 31; refine (checksCan_any p _ (HP.out.chk 84 (by decide) (by decide)).1 (HP.out.chk 85 (by decide) (by decide)).1).mono ?_; rintro e w' ⟨rfl, hb9⟩; rw [HC8.out]; have HB := Lib.hid (below_on HB.out hb9); have HR := Lib.hid (HR.out.later hb9); clear hb9 k0 k78 k83 k86 k87; obtain ⟨k0, k78, k83, k86, k87⟩ := HCs.out _ _ HR.out)
                    | (go_at_call 32; refine (rooksCan_any p _ HP.out.bd HP.out.rook).mono ?_; rintro e w' ⟨rfl, hb9⟩; rw [HC9.out]; have HB := Lib.hid (below_on HB.out hb9); have HR := Lib.hid (HR.out.later hb9); clear hb9 k0 k78 k83 k86 k87; obtain ⟨k0, k78, k83, k86, k87⟩ := HCs.out _ _ HR.out))
                go_ret
                exact ⟨pc_bool HE.out, HB.out⟩
              · skip
                cases c8
                · skip
                  have HE := Lib.hid (show false = b by rw [he]; simp [g0, g1])
                  clear he
                  go_enter Tryz.func15, Tryz.ntmps15
                  go_wp2_with (first
                      | (refine step_box rfl _ rfl p rfl ?_; intro b1 w1 N R; have HB := Lib.hid N.below; have HR := Lib.hid R; obtain ⟨k0, k78, k83, k86, k87⟩ := HCs.out _ _ R; clear N R)
                      | (refine step_load rfl _ rfl b1 rfl p HR.out ?_)
                      | (go_at_call 27; refine (isPassing_any _ _).mono ?_; rintro e w' ⟨rfl, rfl⟩; rw [HC3.out])
                      | (go_at_call 28; refine (isClock_any _ _).mono ?_; rintro e w' ⟨rfl, rfl⟩; first | rw [HC4.out] | rw [HC5.out])
                      | (go_at_call 29; refine (boardCan_any p _ HP.out (HT.out.on HB.out)).mono ?_; rintro e w' ⟨rfl, hb9⟩; rw [HC6.out]; have HB := Lib.hid (below_on HB.out hb9); have HR := Lib.hid (HR.out.later hb9); clear hb9 k0 k78 k83 k86 k87; obtain ⟨k0, k78, k83, k86, k87⟩ := HCs.out _ _ HR.out)
                      | (go_at_call 30; refine (pocketsCan_any p _ HP.out.pock HP.out.var (HT.out.on HB.out)).mono ?_; rintro e w' ⟨rfl, hb9⟩; rw [HC7.out]; have HB := Lib.hid (below_on HB.out hb9); have HR := Lib.hid (HR.out.later hb9); clear hb9 k0 k78 k83 k86 k87; obtain ⟨k0, k78, k83, k86, k87⟩ := HCs.out _ _ HR.out)
                      | (go_at_call 31; refine (checksCan_any p _ (HP.out.chk 84 (by decide) (by decide)).1 (HP.out.chk 85 (by decide) (by decide)).1).mono ?_; rintro e w' ⟨rfl, hb9⟩; rw [HC8.out]; have HB := Lib.hid (below_on HB.out hb9); have HR := Lib.hid (HR.out.later hb9); clear hb9 k0 k78 k83 k86 k87; obtain ⟨k0, k78, k83, k86, k87⟩ := HCs.out _ _ HR.out)
                      | (go_at_call 32; refine (rooksCan_any p _ HP.out.bd HP.out.rook).mono ?_; rintro e w' ⟨rfl, hb9⟩; rw [HC9.out]; have HB := Lib.hid (below_on HB.out hb9); have HR := Lib.hid (HR.out.later hb9); clear hb9 k0 k78 k83 k86 k87; obtain ⟨k0, k78, k83, k86, k87⟩ := HCs.out _ _ HR.out))
                  go_ret
                  exact ⟨pc_bool HE.out, HB.out⟩
                · skip
                  have HE := Lib.hid (show c9 = b by rw [he]; simp [g0, g1])
                  clear he
                  go_enter Tryz.func15, Tryz.ntmps15
                  go_wp2_with (first
                      | (refine step_box rfl _ rfl p rfl ?_; intro b1 w1 N R; have HB := Lib.hid N.below; have HR := Lib.hid R; obtain ⟨k0, k78, k83, k86, k87⟩ := HCs.out _ _ R; clear N R)
                      | (refine step_load rfl _ rfl b1 rfl p HR.out ?_)
                      | (go_at_call 27; refine (isPassing_any _ _).mono ?_; rintro e w' ⟨rfl, rfl⟩; rw [HC3.out])
                      | (go_at_call 28; refine (isClock_any _ _).mono ?_; rintro e w' ⟨rfl, rfl⟩; first | rw [HC4.out] | rw [HC5.out])
                      | (go_at_call 29; refine (boardCan_any p _ HP.out (HT.out.on HB.out)).mono ?_; rintro e w' ⟨rfl, hb9⟩; rw [HC6.out]; have HB := Lib.hid (below_on HB.out hb9); have HR := Lib.hid (HR.out.later hb9); clear hb9 k0 k78 k83 k86 k87; obtain ⟨k0, k78, k83, k86, k87⟩ := HCs.out _ _ HR.out)
                      | (go_at_call 30; refine (pocketsCan_any p _ HP.out.pock HP.out.var (HT.out.on HB.out)).mono ?_; rintro e w' ⟨rfl, hb9⟩; rw [HC7.out]; have HB := Lib.hid (below_on HB.out hb9); have HR := Lib.hid (HR.out.later hb9); clear hb9 k0 k78 k83 k86 k87; obtain ⟨k0, k78, k83, k86, k87⟩ := HCs.out _ _ HR.out)
                      | (go_at_call 31; refine (checksCan_any p _ (HP.out.chk 84 (by decide) (by decide)).1 (HP.out.chk 85 (by decide) (by decide)).1).mono ?_; rintro e w' ⟨rfl, hb9⟩; rw [HC8.out]; have HB := Lib.hid (below_on HB.out hb9); have HR := Lib.hid (HR.out.later hb9); clear hb9 k0 k78 k83 k86 k87; obtain ⟨k0, k78, k83, k86, k87⟩ := HCs.out _ _ HR.out)
                      | (go_at_call 32; refine (rooksCan_any p _ HP.out.bd HP.out.rook).mono ?_; rintro e w' ⟨rfl, hb9⟩; rw [HC9.out]; have HB := Lib.hid (below_on HB.out hb9); have HR := Lib.hid (HR.out.later hb9); clear hb9 k0 k78 k83 k86 k87; obtain ⟨k0, k78, k83, k86, k87⟩ := HCs.out _ _ HR.out))
                  go_ret
                  exact ⟨pc_bool HE.out, HB.out⟩
end Go.Proofs.YtjbfjohgfbipgaaGreatDoor
