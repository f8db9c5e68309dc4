/-
  Contract of the document's own rank (layer 10).
-/
import Derived.Test.YtokojkgfekbjdaaGreatDoorFnBaseB
import Derived.Test.YtokojkgfekbjdaaGreatDoorFnBaseA
namespace Go.Proofs.YtokojkgfekbjdaaGreatDoor
open Go.RowKit
set_option linter.unusedVariables false

theorem bz_snoc {t : ByteArray} {l m : List UInt8} (h : bz l = t) : t ++ bz m = bz (l ++ m) := by rw [← h, bz_app]
theorem rnumber_at (e : Nat) (w : World) (he : e ≤ 9) : Calls Tryz.prog 30 #[.int .i64 (e : Int)] w (StL (bz (digL e)) w) := rnumber_any e w (Nat.lt_of_le_of_lt he (by decide))
set_option maxRecDepth 100000 in
set_option maxHeartbeats 2000000 in
theorem rrank_text (p : Nat → Int) (r : Nat) (w : World) (hr : r < 8) (hb : ∀ i, i < 64 → 0 ≤ p (1 + i) ∧ p (1 + i) ≤ 255) (hm : 0 ≤ p 65 ∧ (p 65).toNat < W64) : Calls Tryz.prog 26 #[.agg (posA p), .int .i64 (r : Int)] w (StL (bz (rkL p r)) w) := by
  have HP := Lib.hid hb
  have HM := Lib.hid hm.2
  have HM0 := Lib.hid (show p 65 = (((p 65).toNat : Nat) : Int) from (Int.toNat_of_nonneg hm.1).symm)
  have r0 : (0 : Int) ≤ (r : Int) := by omega
  have r7 : (r : Int) ≤ 7 := by omega
  have HRr := Lib.hid hr
  clear hb hm
  go_enter Tryz.func26, Tryz.ntmps26
  go_wp2_with (refine step_box rfl _ rfl p rfl ?_; intro b1 w1 N R; have HB := Lib.hid N.below; have HR1 := Lib.hid R; have HG := Lib.hid (Nat.le_of_eq N.at_.symm); clear N R)
  go_loopw [5, 6, 7] (fun s e i wr => ∃ f : Nat, f ≤ 9 ∧ i = .int .i64 (f : Int) ∧ (f ≤ 8 → s = .string (bz (rkS p r f).1) ∧ e = .int .i64 (((rkS p r f).2 : Nat) : Int)) ∧ (f = 9 → s = .string (bz (rkL p r))) ∧ Row wr b1 p ∧ Below w.heap.size w wr) (fun _ _ i _ => 9 - (intOf i).toNat)
  case atStart => exact ⟨0, by omega, rfl, fun _ => ⟨rfl, rfl⟩, fun h => by omega, HR1.out, HB.out⟩
  case round =>
    obtain ⟨f, hf9, rfl, hs8, hs9, hrow, hbel⟩ := hrel
    have HRw := Lib.hid hrow
    have HBl := Lib.hid hbel
    clear hrow hbel
    by_cases h8 : f ≤ 8
    · obtain ⟨rfl, rfl⟩ := hs8 h8
      clear hs8 hs9
      have f0 : (0 : Int) ≤ (f : Int) := by omega
      obtain ⟨t, ht⟩ : ∃ t, bz (rkS p r f).1 = t := ⟨_, rfl⟩
      obtain ⟨e, he⟩ : ∃ e, (rkS p r f).2 = e := ⟨_, rfl⟩
      by_cases h7 : f < 8
      · have lf : (f : Int) < 8 := by omega
        have l8 : (f : Int) ≤ 8 := by omega
        have HF8 := Lib.hid h7
        obtain ⟨x, hx⟩ : ∃ x, p (1 + (8 * r + f)) = x := ⟨_, rfl⟩
        obtain ⟨m, hm⟩ : ∃ m, (p 65).toNat = m := ⟨_, rfl⟩
        obtain ⟨b, hb⟩ : ∃ b, hasN m (8 * (r : Int) + (f : Int)) = b := ⟨_, rfl⟩
        have hb' : hasN m ((8 * r + f : Nat) : Int) = b := by rw [← hb]; congr 1
        have hcell : ∀ {W : World}, Row W b1 p → W.cell? ⟨b1, 1 + (8 * r + f), none⟩ = some (.int .u8 x) := fun {W} h => by rw [h.cell _ (by have := HRr.out; omega), kAt_board (Nat.zero_le _) (by have := HRr.out; omega), hx]
        have hcell65 : ∀ {W : World}, Row W b1 p → W.cell? ⟨b1, 65, none⟩ = some (.int .u64 (m : Int)) := fun {W} h => by rw [h.cell 65 (by decide), show kAt 65 = .u64 from rfl, HM0.out, hm]
        have HH := Lib.hid hb
        have HML := Lib.hid (show m < W64 by rw [← hm]; exact HM.out)
        have hlen := rkS_len p r f
        rw [he] at hlen
        have HE9 := Lib.hid (show e ≤ 9 by omega)
        have htz : t.size ≤ 400 := by rw [← ht, bz_size]; omega
        obtain ⟨d, hd⟩ : ∃ d, bz (digL e) = d := ⟨_, rfl⟩
        obtain ⟨y, hy⟩ : ∃ y, letZ x = y := ⟨_, rfl⟩
        have hdz : d.size ≤ 20 := by rw [← hd, bz_size]; exact digL_len e
        have hyz : y.size ≤ 1 := by rw [← hy, leF_bz, bz_size]; exact leF_len x
        have HD := Lib.hid hd
        have HY := Lib.hid hy
        have k1 : ¬ (9223372036854775807 < t.size + d.size) := cat_ok (by omega) (by omega)
        have k2 : ¬ (9223372036854775807 < t.size + y.size) := cat_ok (by omega) (by omega)
        have k3 : ¬ (9223372036854775807 < (t ++ d).size + y.size) := cat_ok (by rw [ByteArray.size_append]; omega) (by omega)
        have k4 := cat_ok (a := t ++ y) (b := ⟨#[126]⟩) (by rw [ByteArray.size_append]; omega) (by decide)
        have k5 := cat_ok (a := t ++ d ++ y) (b := ⟨#[126]⟩) (by rw [ByteArray.size_append, ByteArray.size_append]; omega) (by decide)
        have he' := he
        rw [ht, he]
        have hc := hcell HRw.out
        have hc65 := hcell65 HRw.out
        cases hz : (x == 0)
        · have HZ := Lib.hid (show (p (1 + (8 * r + f)) == 0) = false by rw [hx]; exact hz)
          have hcl : bz (clL p (8 * r + f)) = y ++ bz (bif b then [126] else []) := by unfold clL; rw [hx, hm, hb', ← hy, leF_bz, bz_app]
          cases he0 : decide (0 < e)
          · have hemp : emL2 e = [] := by unfold emL2; rw [he0]; rfl
            have HR1s := Lib.hid (show bz (rkS p r (f + 1)).1 = t ++ (y ++ bz (bif b then [126] else [])) by rw [rkS_piece HZ.out]; show bz ((rkS p r f).1 ++ emL2 (rkS p r f).2 ++ clL p (8 * r + f)) = _; rw [he', hemp, List.append_nil, ← bz_app, ht, hcl])
            clear hemp
            clear hcl hx hm hb hb' hy hd ht he hlen htz hdz hyz he'
            go_wp2_with fail
            refine (rlet_any x _).mono ?_; rintro e2 wn ⟨rfl, hb9⟩; rw [HY.out]; have HRw := Lib.hid (HRw.out.later hb9); have HBl := Lib.hid (below_on HBl.out hb9); clear hb9 hc hc65
            have hc65 := hcell65 HRw.out
            go_wp2_with fail
            refine (rhas_any m _ _ HML.out).mono ?_; rintro e2 wn ⟨rfl, rfl⟩; rw [HH.out]
            cases b
            · have HRs := Lib.hid (show bz (rkS p r (f + 1)).1 = t ++ y by rw [HR1s.out]; exact congrArg (t ++ ·) (bz_none y))
              go_wp2_with fail
              go_roundw
              case rel => exact ⟨f + 1, by have := HF8.out; omega, by go_num, fun _ => ⟨by rw [HRs.out], by rw [rkS_piece HZ.out]; rfl⟩, fun h => by have := HF8.out; omega, HRw.out, HBl.out⟩
              case measure => simp [intOf]; have := HF8.out; omega
            · have HRs := Lib.hid (show bz (rkS p r (f + 1)).1 = t ++ y ++ ⟨#[126]⟩ by rw [HR1s.out]; exact (bz_assoc (t) y ⟨#[126]⟩).symm)
              go_wp2_with fail
              go_roundw
              case rel => exact ⟨f + 1, by have := HF8.out; omega, by go_num, fun _ => ⟨by rw [HRs.out], by rw [rkS_piece HZ.out]; rfl⟩, fun h => by have := HF8.out; omega, HRw.out, HBl.out⟩
              case measure => simp [intOf]; have := HF8.out; omega
          · have hemp : emL2 e = digL e := by unfold emL2; rw [he0]; rfl
            have HR1s := Lib.hid (show bz (rkS p r (f + 1)).1 = t ++ d ++ (y ++ bz (bif b then [126] else [])) by rw [rkS_piece HZ.out]; show bz ((rkS p r f).1 ++ emL2 (rkS p r f).2 ++ clL p (8 * r + f)) = _; rw [he', hemp, ← bz_app, ← bz_app, ht, hd, hcl])
            clear hemp
            clear hcl hx hm hb hb' hy hd ht he hlen htz hdz hyz he'
            go_wp2_with fail
            refine (rnumber_at e _ HE9.out).mono ?_; rintro e2 wn ⟨rfl, hb9⟩; rw [HD.out]; have HRw := Lib.hid (HRw.out.later hb9); have HBl := Lib.hid (below_on HBl.out hb9); clear hb9 hc hc65
            have hc := hcell HRw.out
            have hc65 := hcell65 HRw.out
            go_wp2_with fail
            refine (rlet_any x _).mono ?_; rintro e2 wn ⟨rfl, hb9⟩; rw [HY.out]; have HRw := Lib.hid (HRw.out.later hb9); have HBl := Lib.hid (below_on HBl.out hb9); clear hb9 hc hc65
            have hc65 := hcell65 HRw.out
            go_wp2_with fail
            refine (rhas_any m _ _ HML.out).mono ?_; rintro e2 wn ⟨rfl, rfl⟩; rw [HH.out]
            cases b
            · have HRs := Lib.hid (show bz (rkS p r (f + 1)).1 = t ++ d ++ y by rw [HR1s.out]; exact congrArg (t ++ d ++ ·) (bz_none y))
              go_wp2_with fail
              go_roundw
              case rel => exact ⟨f + 1, by have := HF8.out; omega, by go_num, fun _ => ⟨by rw [HRs.out], by rw [rkS_piece HZ.out]; rfl⟩, fun h => by have := HF8.out; omega, HRw.out, HBl.out⟩
              case measure => simp [intOf]; have := HF8.out; omega
            · have HRs := Lib.hid (show bz (rkS p r (f + 1)).1 = t ++ d ++ y ++ ⟨#[126]⟩ by rw [HR1s.out]; exact (bz_assoc (t ++ d) y ⟨#[126]⟩).symm)
              go_wp2_with fail
              go_roundw
              case rel => exact ⟨f + 1, by have := HF8.out; omega, by go_num, fun _ => ⟨by rw [HRs.out], by rw [rkS_piece HZ.out]; rfl⟩, fun h => by have := HF8.out; omega, HRw.out, HBl.out⟩
              case measure => simp [intOf]; have := HF8.out; omega
        · have HZ := Lib.hid (show (p (1 + (8 * r + f)) == 0) = true by rw [hx]; exact hz)
          have HRs := Lib.hid (show (rkS p r (f + 1)).1 = (rkS p r f).1 by rw [rkS_empty HZ.out])
          have HT := Lib.hid ht
          have HEe := Lib.hid he'
          have HEw := Lib.hid (show wrap64 ((e : Int) + 1) = ((e + 1 : Nat) : Int) by rw [IntWalk.wrap64_in _ ⟨by omega, by omega⟩]; rfl)
          clear hx hm hb hb' hy hd ht he hlen htz hdz hyz he'
          go_wp2_with fail
          go_roundw
          case rel => exact ⟨f + 1, by have := HF8.out; omega, by go_num, fun _ => ⟨by rw [HRs.out, HT.out], by rw [rkS_empty HZ.out]; show _ = Value.int .i64 (((rkS p r f).2 + 1 : Nat) : Int); rw [HEe.out, HEw.out]⟩, fun h => by have := HF8.out; omega, HRw.out, HBl.out⟩
          case measure => simp [intOf]; have := HF8.out; omega
      · obtain rfl : f = 8 := by omega
        have hlen := rkS_len p r 8
        rw [he] at hlen
        have HE9 := Lib.hid (show e ≤ 9 by omega)
        have htz : t.size ≤ 400 := by rw [← ht, bz_size]; omega
        obtain ⟨d, hd⟩ : ∃ d, bz (digL e) = d := ⟨_, rfl⟩
        have hdz : d.size ≤ 20 := by rw [← hd, bz_size]; exact digL_len e
        have HD := Lib.hid hd
        have k1 : ¬ (9223372036854775807 < t.size + d.size) := cat_ok (by omega) (by omega)
        have he' := he
        rw [ht, he]
        cases he0 : decide (0 < e)
        · have HRs := Lib.hid (show bz (rkL p r) = t by unfold rkL emL2; rw [he', he0, ← ht]; exact congrArg bz (List.append_nil _))
          clear hd ht he hlen htz hdz he'
          go_wp2_with fail
          go_roundw
          case rel => exact ⟨9, by omega, by go_num, fun h => by omega, fun _ => by rw [HRs.out], HRw.out, HBl.out⟩
          case measure => simp [intOf]
        · have HRs := Lib.hid (show bz (rkL p r) = t ++ d by unfold rkL emL2; rw [he', he0, ← ht, ← hd, bz_app]; rfl)
          clear hd ht he hlen htz hdz he'
          go_wp2_with fail
          refine (rnumber_at e _ HE9.out).mono ?_; rintro e2 wn ⟨rfl, hb9⟩; rw [HD.out]; have HRw := Lib.hid (HRw.out.later hb9); have HBl := Lib.hid (below_on HBl.out hb9); clear hb9
          go_wp2_with fail
          go_roundw
          case rel => exact ⟨9, by omega, by go_num, fun h => by omega, fun _ => by rw [HRs.out], HRw.out, HBl.out⟩
          case measure => simp [intOf]
    · obtain rfl : f = 9 := by omega
      obtain rfl := hs9 rfl
      clear hs8 hs9
      go_wp2_with fail
      go_ret
      exact ⟨rfl, HBl.out⟩
end Go.Proofs.YtokojkgfekbjdaaGreatDoor
