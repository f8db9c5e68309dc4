/-
  Contracts of the program's tests of a position that can be written, fifth part (layer 10): the board.
-/
import Derived.Test.YtokojkgfekbjdaaGreatDoorFpCan
import Derived.Test.YtokojkgfekbjdaaGreatDoorRu
namespace Go.Proofs.YtokojkgfekbjdaaGreatDoor
open Go.RowKit
set_option linter.unusedVariables false
set_option linter.unusedSimpArgs false

theorem poc_two {v : Nat} {p : Nat → Int} (h : p 0 = (v : Int)) : (p 0 != 2) = !pocB v := by
  unfold pocB
  by_cases e : v = 2
  · subst e; rw [h]; rfl
  · have h1 : Nat.beq v 2 = false := by cases g : Nat.beq v 2 with | false => rfl | true => exact absurd (Nat.eq_of_beq_eq_true g) e
    rw [h1, h]; simp; omega
set_option maxRecDepth 100000 in
set_option maxHeartbeats 4000000 in
theorem boardCan_any (p : Nat → Int) (w : World) (hp : FitF p) (hT : TabVar w) : Calls Tryz.prog 53 #[.agg (posA p)] w (BoL (allB (wrS p) 64) w) := by
  have HP := Lib.hid hp
  have HT := Lib.hid hT
  obtain ⟨v, hvv⟩ : ∃ v : Nat, p 0 = (v : Int) := ⟨(p 0).toNat, (Int.toNat_of_nonneg hp.var.1).symm⟩
  have HV := Lib.hid (show v ≤ 255 by have := hp.var.2; omega)
  obtain ⟨q, hq⟩ : ∃ q, pocB v = q := ⟨_, rfl⟩
  have HQ := Lib.hid hq
  have H2 := Lib.hid (show (p 0 != 2) = !q by rw [poc_two hvv, hq])
  obtain ⟨b, hb⟩ : ∃ b, allB (wrS p) 64 = b := ⟨_, rfl⟩
  have HBb := Lib.hid hb
  rw [hb]
  have HCs := Lib.hid (fun (W : World) (b1 : Nat) (h : Row W b1 p) => show W.cell? ⟨b1, 0, none⟩ = some (.int .u8 (v : Int)) by rw [h.cell 0 (by decide), hvv]; rfl)
  clear hb hq hvv hp hT
  go_enter Tryz.func53, Tryz.ntmps53
  go_wp2_with (first
    | (refine step_box rfl _ rfl p rfl ?_; intro b1 w1 N R; have HB := Lib.hid N.below; have HR := Lib.hid R; clear N R)
    | (refine step_part rfl 22 _ rfl b1 1 64 .u8 rfl p HR.out (by decide) kat_bd _ Tryz.underlying22 rfl (by kernel_rfl) ?_))
  have HI := Lib.hid (show b1 < w1.heap.size from HR.out.lt)
  go_loopw [8] (fun i wr => ∃ s : Nat, s ≤ 64 ∧ i = .int .i64 s ∧ (∀ j, j < s → wrS p j = true) ∧ Below w1.heap.size w1 wr) (fun i _ => 64 - (intOf i).toNat)
  case atStart => exact ⟨0, by omega, rfl, fun j hj => by omega, Below.refl _ _⟩
  case round =>
    obtain ⟨s, hs64, rfl, hall, hbel⟩ := hrel
    have HAl := Lib.hid hall
    have HBl := Lib.hid hbel
    have HRw := Lib.hid (HR.out.next hbel HI.out)
    clear hall hbel
    by_cases hs : s < 64
    · have hls : (s : Int) < 64 := by omega
      have hs0 : (0 : Int) ≤ (s : Int) := by omega
      have HS := Lib.hid hs
      obtain ⟨x, hx⟩ : ∃ x, p (1 + s) = x := ⟨_, rfl⟩
      have HX := Lib.hid hx
      obtain ⟨x0, x1⟩ := HP.out.bd s hs
      rw [hx] at x0 x1
      obtain ⟨h, hh⟩ : ∃ h, hasN (p 65).toNat (s : Int) = h := ⟨_, rfl⟩
      have HH := Lib.hid hh
      have hw : wrS p s = (!((x != 0) && !pcB x) && !(h && ((x == 0) || !q))) := by unfold wrS; rw [hx, hh, H2.out]
      clear hx hh hs hs64
      have k0 := HCs.out _ _ HRw.out
      have HFin := Lib.hid (fun (W : World) (hW : Below w1.heap.size w1 W) => HB.out.trans (hW.mono HB.out.size))
      by_cases hz : x = 0
      · subst hz
        cases h
        · skip
          have HT1 := Lib.hid (show wrS p s = true by rw [hw]; simp [])
          clear hw
          go_wp2_with (first
            | (refine arr_index rfl 22 5 _ _ rfl 64 .u8 _ rfl s rfl HS.out Tryz.underlying22 Tryz.underlying5 size5 ?_; dsimp only; rw [HX.out])
            | (refine step_load rfl _ rfl b1 rfl p HRw.out ?_)
            | (go_at_call 21; refine (is_any _ _ x0 x1).mono ?_; rintro e w' ⟨rfl, rfl⟩)
            | (go_at_call 92; refine (isPromoted_any p s _ HS.out HP.out.prom).mono ?_; rintro e w' ⟨rfl, hb9⟩; rw [HH.out]; have HBl := Lib.hid (below_on HBl.out hb9); have HRw := Lib.hid (HRw.out.later hb9); clear hb9 k0; have k0 := HCs.out _ _ HRw.out)
            | (go_at_call 93; refine (poc_any _ _ HV.out (HT.out.on (HFin.out _ HBl.out))).mono ?_; rintro e w' ⟨rfl, hb9⟩; rw [HQ.out]; have HBl := Lib.hid (below_on HBl.out hb9); clear hb9))
          go_roundw
          case rel => exact ⟨s + 1, by have := HS.out; omega, by go_num, fun j hj => if e : j = s then by subst e; exact HT1.out else HAl.out j (by omega), HBl.out⟩
          case measure => simp [intOf]; have := HS.out; omega
        · skip
          have HN1 := Lib.hid (show false = b by rw [← HBb.out]; exact (allB_no (by rw [hw]; simp []) HS.out).symm)
          clear hw
          go_wp2_with (first
            | (refine arr_index rfl 22 5 _ _ rfl 64 .u8 _ rfl s rfl HS.out Tryz.underlying22 Tryz.underlying5 size5 ?_; dsimp only; rw [HX.out])
            | (refine step_load rfl _ rfl b1 rfl p HRw.out ?_)
            | (go_at_call 21; refine (is_any _ _ x0 x1).mono ?_; rintro e w' ⟨rfl, rfl⟩)
            | (go_at_call 92; refine (isPromoted_any p s _ HS.out HP.out.prom).mono ?_; rintro e w' ⟨rfl, hb9⟩; rw [HH.out]; have HBl := Lib.hid (below_on HBl.out hb9); have HRw := Lib.hid (HRw.out.later hb9); clear hb9 k0; have k0 := HCs.out _ _ HRw.out)
            | (go_at_call 93; refine (poc_any _ _ HV.out (HT.out.on (HFin.out _ HBl.out))).mono ?_; rintro e w' ⟨rfl, hb9⟩; rw [HQ.out]; have HBl := Lib.hid (below_on HBl.out hb9); clear hb9))
          go_ret
          exact ⟨pc_bool HN1.out, HFin.out _ HBl.out⟩
      · have gz : (x == 0) = false := by simp [hz]
        have gn : (x != 0) = true := by simp [hz]
        clear hz
        cases hpc : pcB x
        · skip
          have HN1 := Lib.hid (show false = b by rw [← HBb.out]; exact (allB_no (by rw [hw]; simp [gn, hpc]) HS.out).symm)
          clear hw
          go_wp2_with (first
            | (refine arr_index rfl 22 5 _ _ rfl 64 .u8 _ rfl s rfl HS.out Tryz.underlying22 Tryz.underlying5 size5 ?_; dsimp only; rw [HX.out])
            | (refine step_load rfl _ rfl b1 rfl p HRw.out ?_)
            | (go_at_call 21; refine (is_any _ _ x0 x1).mono ?_; rintro e w' ⟨rfl, rfl⟩)
            | (go_at_call 92; refine (isPromoted_any p s _ HS.out HP.out.prom).mono ?_; rintro e w' ⟨rfl, hb9⟩; rw [HH.out]; have HBl := Lib.hid (below_on HBl.out hb9); have HRw := Lib.hid (HRw.out.later hb9); clear hb9 k0; have k0 := HCs.out _ _ HRw.out)
            | (go_at_call 93; refine (poc_any _ _ HV.out (HT.out.on (HFin.out _ HBl.out))).mono ?_; rintro e w' ⟨rfl, hb9⟩; rw [HQ.out]; have HBl := Lib.hid (below_on HBl.out hb9); clear hb9))
          go_ret
          exact ⟨pc_bool HN1.out, HFin.out _ HBl.out⟩
        · cases h
          · skip
            have HT1 := Lib.hid (show wrS p s = true by rw [hw]; simp [gn, hpc])
            clear hw
            go_wp2_with (first
              | (refine arr_index rfl 22 5 _ _ rfl 64 .u8 _ rfl s rfl HS.out Tryz.underlying22 Tryz.underlying5 size5 ?_; dsimp only; rw [HX.out])
              | (refine step_load rfl _ rfl b1 rfl p HRw.out ?_)
              | (go_at_call 21; refine (is_any _ _ x0 x1).mono ?_; rintro e w' ⟨rfl, rfl⟩)
              | (go_at_call 92; refine (isPromoted_any p s _ HS.out HP.out.prom).mono ?_; rintro e w' ⟨rfl, hb9⟩; rw [HH.out]; have HBl := Lib.hid (below_on HBl.out hb9); have HRw := Lib.hid (HRw.out.later hb9); clear hb9 k0; have k0 := HCs.out _ _ HRw.out)
              | (go_at_call 93; refine (poc_any _ _ HV.out (HT.out.on (HFin.out _ HBl.out))).mono ?_; rintro e w' ⟨rfl, hb9⟩; rw [HQ.out]; have HBl := Lib.hid (below_on HBl.out hb9); clear hb9))
            go_roundw
            case rel => exact ⟨s + 1, by have := HS.out; omega, by go_num, fun j hj => if e : j = s then by subst e; exact HT1.out else HAl.out j (by omega), HBl.out⟩
            case measure => simp [intOf]; have := HS.out; omega
          · cases q
            · skip
              have HN1 := Lib.hid (show false = b by rw [← HBb.out]; exact (allB_no (by rw [hw]; simp [gn, gz, hpc]) HS.out).symm)
              clear hw
              go_wp2_with (first
                | (refine arr_index rfl 22 5 _ _ rfl 64 .u8 _ rfl s rfl HS.out Tryz.underlying22 Tryz.underlying5 size5 ?_; dsimp only; rw [HX.out])
                | (refine step_load rfl _ rfl b1 rfl p HRw.out ?_)
                | (go_at_call 21; refine (is_any _ _ x0 x1).mono ?_; rintro e w' ⟨rfl, rfl⟩)
                | (go_at_call 92; refine (isPromoted_any p s _ HS.out HP.out.prom).mono ?_; rintro e w' ⟨rfl, hb9⟩; rw [HH.out]; have HBl := Lib.hid (below_on HBl.out hb9); have HRw := Lib.hid (HRw.out.later hb9); clear hb9 k0; have k0 := HCs.out _ _ HRw.out)
                | (go_at_call 93; refine (poc_any _ _ HV.out (HT.out.on (HFin.out _ HBl.out))).mono ?_; rintro e w' ⟨rfl, hb9⟩; rw [HQ.out]; have HBl := Lib.hid (below_on HBl.out hb9); clear hb9))
              go_ret
              exact ⟨pc_bool HN1.out, HFin.out _ HBl.out⟩
            · skip
              have HT1 := Lib.hid (show wrS p s = true by rw [hw]; simp [gn, gz, hpc])
              clear hw
              go_wp2_with (first
                | (refine arr_index rfl 22 5 _ _ rfl 64 .u8 _ rfl s rfl HS.out Tryz.underlying22 Tryz.underlying5 size5 ?_; dsimp only; rw [HX.out])
                | (refine step_load rfl _ rfl b1 rfl p HRw.out ?_)
                | (go_at_call 21; refine (is_any _ _ x0 x1).mono ?_; rintro e w' ⟨rfl, rfl⟩)
                | (go_at_call 92; refine (isPromoted_any p s _ HS.out HP.out.prom).mono ?_; rintro e w' ⟨rfl, hb9⟩; rw [HH.out]; have HBl := Lib.hid (below_on HBl.out hb9); have HRw := Lib.hid (HRw.out.later hb9); clear hb9 k0; have k0 := HCs.out _ _ HRw.out)
                | (go_at_call 93; refine (poc_any _ _ HV.out (HT.out.on (HFin.out _ HBl.out))).mono ?_; rintro e w' ⟨rfl, hb9⟩; rw [HQ.out]; have HBl := Lib.hid (below_on HBl.out hb9); clear hb9))
              go_roundw
              case rel => exact ⟨s + 1, by have := HS.out; omega, by go_num, fun j hj => if e : j = s then by subst e; exact HT1.out else HAl.out j (by omega), HBl.out⟩
              case measure => simp [intOf]; have := HS.out; omega
    · obtain rfl : s = 64 := by omega
      have HN := Lib.hid (show true = b by rw [← HBb.out]; exact (allB_true.2 HAl.out).symm)
      go_wp2_with fail
      go_ret
      exact ⟨pc_bool HN.out, HB.out.trans (HBl.out.mono HB.out.size)⟩
end Go.Proofs.YtokojkgfekbjdaaGreatDoor
