/-
  Contracts of the program's gapText, turnText, rankText (layer 10).
-/
import Derived.Test.YtokojkgfekbjdaaGreatDoorFpCan
import Derived.Test.YtokojkgfekbjdaaGreatDoorFpShelf
import Derived.Test.YtokojkgfekbjdaaGreatDoorFnBaseB
import Derived.Deep.QuietTactic
namespace Go.Proofs.YtokojkgfekbjdaaGreatDoor
open Go.RowKit
set_option linter.unusedVariables false
set_option linter.unusedSimpArgs false

theorem gapText_any (e : Nat) (w : World) (he : e ≤ 9) : Calls Tryz.prog 130 #[.int .i64 (e : Int)] w (StS (bz (emL2 e)) w) := by
  by_cases h : e = 0
  · subst h
    go_enter Tryz.func130, Tryz.ntmps130
    go_wp2_with fail
    go_ret
    exact ⟨rfl, rfl⟩
  · have h0 : ((e : Int) == 0) = false := by simp; omega
    have HE := Lib.hid (show emL2 e = digL e by unfold emL2; rw [decide_eq_true (show 0 < e by omega)]; rfl)
    have HL := Lib.hid (show e < 100 by omega)
    clear h he
    go_enter Tryz.func130, Tryz.ntmps130
    go_wp2_with (go_at_call 63; refine (itoaS_any e _ HL.out).mono ?_; rintro e' w' ⟨rfl, rfl⟩)
    go_ret
    exact ⟨by rw [HE.out]; rfl, rfl⟩
theorem turnText_any (c : Int) (w : World) (hc : c = 0 ∨ c = 1) : Calls Tryz.prog 59 #[.int .u8 c] w (StS (bz (bif c == 0 then [119] else [98])) w) := by
  rcases hc with rfl | rfl
  · go_enter Tryz.func59, Tryz.ntmps59
    go_wp2_with fail
    go_ret
    exact ⟨rfl, rfl⟩
  · go_enter Tryz.func59, Tryz.ntmps59
    go_wp2_with fail
    go_ret
    exact ⟨rfl, rfl⟩
theorem bz_snocF {t : ByteArray} {l m : List UInt8} (h : bz l = t) : t ++ bz m = bz (l ++ m) := by rw [← h, bz_app]
set_option maxRecDepth 100000 in
set_option maxHeartbeats 4000000 in
theorem rankText_any (p : Nat → Int) (r : Nat) (w : World) (hr : r < 8) (hp : BdR p) (hm : 0 ≤ p 65 ∧ (p 65).toNat < W64) : Calls Tryz.prog 95 #[.agg (posA p), .int .i64 (r : Int)] w (StL (bz (rkL p r)) w) := by
  have HP := Lib.hid hp
  have HM := Lib.hid hm
  have r0 : (0 : Int) ≤ (r : Int) := by omega
  have r7 : (r : Int) ≤ 7 := by omega
  have HRr := Lib.hid hr
  clear hp hm hr
  go_enter Tryz.func95, Tryz.ntmps95
  go_wp2_with (refine step_box rfl _ rfl p rfl ?_; intro b1 w1 N R; have HB := Lib.hid N.below; have HR1 := Lib.hid R; clear N R)
  go_loopw [5, 6, 7] (fun t e i wr => ∃ f s : Nat, f ≤ 8 ∧ s = 8 * r + f ∧ i = .int .i64 (s : Int) ∧ t = .string (bz (rkS p r f).1) ∧ e = .int .i64 (((rkS p r f).2 : Nat) : Int) ∧ Row wr b1 p ∧ Below w.heap.size w wr) (fun _ _ i _ => 8 * r + 8 - (intOf i).toNat)
  case atStart => exact ⟨0, 8 * r, by omega, rfl, by go_num, rfl, rfl, HR1.out, HB.out⟩
  case round =>
    obtain ⟨f, s, hf8, hs, rfl, rfl, rfl, hrow, hbel⟩ := hrel
    have HRw := Lib.hid hrow
    have HBl := Lib.hid hbel
    clear hrow hbel
    obtain ⟨t, ht⟩ : ∃ t, bz (rkS p r f).1 = t := ⟨_, rfl⟩
    obtain ⟨e, he⟩ : ∃ e, (rkS p r f).2 = e := ⟨_, rfl⟩
    have hlen := rkS_len p r f
    rw [he] at hlen
    have HE9 := Lib.hid (show e ≤ 9 by omega)
    have htz : t.size ≤ 400 := by rw [← ht, bz_size]; omega
    obtain ⟨d, hd⟩ : ∃ d, bz (emL2 e) = d := ⟨_, rfl⟩
    have hdz : d.size ≤ 20 := by rw [← hd, bz_size]; exact emL2_len e
    have HD := Lib.hid hd
    by_cases h8 : f < 8
    · have HSs := Lib.hid (show s = 8 * r + f from hs)
      have l1 : (s : Int) < 8 * ((r : Int) + 1) := by omega
      have s0 : (0 : Int) ≤ (s : Int) := by omega
      have s64 : (s : Int) < 64 := by have := HRr.out; omega
      have HS64 := Lib.hid (show s < 64 by have := HRr.out; omega)
      have HF8 := Lib.hid h8
      obtain ⟨x, hx⟩ : ∃ x, p (1 + s) = x := ⟨_, rfl⟩
      obtain ⟨x0, x1⟩ := HP.out s HS64.out
      rw [hx] at x0 x1
      have HC := Lib.hid (fun (W : World) (h : Row W b1 p) => show W.cell? ⟨b1, 1 + s, none⟩ = some (.int .u8 x) by rw [h.cell _ (by have := HS64.out; omega), kAt_board (Nat.zero_le _) HS64.out, hx])
      have hc := HC.out _ HRw.out
      rw [ht, he]
      cases hz : (x == 0)
      · obtain ⟨y, hy⟩ : ∃ y, letZ x = y := ⟨_, rfl⟩
        have hyz : y.size ≤ 1 := by rw [← hy, leF_bz, bz_size]; exact leF_len x
        have HY := Lib.hid hy
        obtain ⟨b, hb⟩ : ∃ b, hasN (p 65).toNat (s : Int) = b := ⟨_, rfl⟩
        have HH := Lib.hid hb
        have HN := Lib.hid (show (rkS p r (f + 1)).2 = 0 ∧ bz (rkS p r (f + 1)).1 = t ++ (d ++ y) ++ bz (bif b then [126] else []) by
          rw [rkS_piece (by rw [← hs, hx]; exact hz)]
          refine ⟨rfl, ?_⟩
          show bz ((rkS p r f).1 ++ emL2 (rkS p r f).2 ++ clL p (8 * r + f)) = _
          rw [← bz_app, ← bz_app, ht, he, hd]
          unfold clL
          rw [← hs, hx, ← bz_app, ← leF_bz, hy, hb]
          rw [bz_assoc, bz_assoc, bz_assoc])
        have k1 : ¬ (9223372036854775807 < d.size + y.size) := cat_ok (by omega) (by omega)
        have k2 : ¬ (9223372036854775807 < t.size + (d ++ y).size) := cat_ok (by omega) (by rw [ByteArray.size_append]; omega)
        have k3 := cat_ok (a := t ++ (d ++ y)) (b := ⟨#[126]⟩) (by rw [ByteArray.size_append, ByteArray.size_append]; omega) (by decide)
        clear hx hs ht he hlen htz hd hdz hy hyz hb h8 hf8
        have HG9 := Lib.hid (fun W => show Calls Tryz.prog 130 #[.int .i64 (e : Int)] W (StS d W) from HD.out ▸ gapText_any e W HE9.out)
        have HL9 := Lib.hid (fun W => show Calls Tryz.prog 97 #[.int .u8 x] W (StS y W) from HY.out ▸ let_any x W x0 x1)
        go_wp2_with fail
        go_quiet ((first | (go_at_call 130; exact quiet_c (HG9.out _)) | (go_at_call 97; exact quiet_c (HL9.out _))))
        have HRw := Lib.hid (HRw.out.later (below_drewN (Below.refl wr.heap.size wr) nq))
        have HBl := Lib.hid (below_drewN HBl.out nq)
        clear hc
        cases b
        · have HN1 := Lib.hid (show bz (rkS p r (f + 1)).1 = t ++ (d ++ y) by rw [HN.out.2]; exact bz_none _)
          go_wp2_with (first
            | (refine step_load rfl _ rfl b1 rfl p HRw.out ?_)
            | (go_at_call 92; refine (isPromoted_any p s _ HS64.out HM.out).mono ?_; rintro e' w' ⟨rfl, hb9⟩; rw [HH.out]; have HRw := Lib.hid (HRw.out.later hb9); have HBl := Lib.hid (below_on HBl.out hb9); clear hb9))
          go_roundw
          case rel => exact ⟨f + 1, s + 1, by have := HF8.out; omega, by have := HSs.out; omega, by go_num, by rw [HN1.out], by rw [HN.out.1]; rfl, HRw.out, HBl.out⟩
          case measure => simp [intOf]; have := HSs.out; have := HF8.out; omega
        · have HN1 := Lib.hid (show bz (rkS p r (f + 1)).1 = t ++ (d ++ y) ++ ⟨#[126]⟩ by rw [HN.out.2]; rfl)
          go_wp2_with (first
            | (refine step_load rfl _ rfl b1 rfl p HRw.out ?_)
            | (go_at_call 92; refine (isPromoted_any p s _ HS64.out HM.out).mono ?_; rintro e' w' ⟨rfl, hb9⟩; rw [HH.out]; have HRw := Lib.hid (HRw.out.later hb9); have HBl := Lib.hid (below_on HBl.out hb9); clear hb9))
          go_roundw
          case rel => exact ⟨f + 1, s + 1, by have := HF8.out; omega, by have := HSs.out; omega, by go_num, by rw [HN1.out], by rw [HN.out.1]; rfl, HRw.out, HBl.out⟩
          case measure => simp [intOf]; have := HSs.out; have := HF8.out; omega
      · have HN := Lib.hid (show (rkS p r (f + 1)).1 = (rkS p r f).1 ∧ (rkS p r (f + 1)).2 = e + 1 by rw [rkS_empty (by rw [← hs, hx]; exact hz), he]; exact ⟨rfl, rfl⟩)
        have HEw := Lib.hid (show wrap64 ((e : Int) + 1) = ((e + 1 : Nat) : Int) by rw [IntWalk.wrap64_in _ ⟨by omega, by omega⟩]; rfl)
        have HT := Lib.hid ht
        clear hx hs ht he hlen htz hd hdz h8 hf8
        go_wp2_with fail
        go_roundw
        case rel => exact ⟨f + 1, s + 1, by have := HF8.out; omega, by have := HSs.out; omega, by go_num, by rw [HN.out.1, HT.out], by rw [HN.out.2, HEw.out], HRw.out, HBl.out⟩
        case measure => simp [intOf]; have := HSs.out; have := HF8.out; omega
    · obtain rfl : f = 8 := by omega
      have l1 : ¬ ((s : Int) < 8 * ((r : Int) + 1)) := by omega
      have HN := Lib.hid (show bz (rkL p r) = t ++ d by unfold rkL; rw [he, ← bz_app, ht, hd])
      have k1 : ¬ (9223372036854775807 < t.size + d.size) := cat_ok (by omega) (by omega)
      rw [ht, he]
      clear hs ht he hlen htz hd hdz h8 hf8
      go_wp2_with (go_at_call 130; refine (gapText_any e _ HE9.out).mono ?_; rintro e' w' ⟨rfl, rfl⟩; rw [HD.out])
      go_ret
      exact ⟨by rw [HN.out]; rfl, HBl.out⟩
end Go.Proofs.YtokojkgfekbjdaaGreatDoor
