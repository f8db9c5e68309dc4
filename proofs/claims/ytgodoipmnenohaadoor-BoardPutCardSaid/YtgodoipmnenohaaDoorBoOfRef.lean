/-
  The contract of the document's own Of.
-/
import Derived.Test.YtgodoipmnenohaaDoorBoPutRef
namespace Go.Proofs.YtgodoipmnenohaaDoor
open Go.RowKit
set_option linter.unusedVariables false
theorem bne_of {a b : Int} {r : Bool} (h : (a == b) = r) : (a != b) = !r := by simp only [bne, h]
theorem at_n {p : Nat → Int} {k : Nat} (hk : k < 64) (h : pcB (p (1 + k)) = false) : atZ p (k : Int) = 0 := atZ_off (sq_true.2 ⟨by omega, by omega⟩) h
theorem at_y {p : Nat → Int} {k : Nat} (hk : k < 64) (h : pcB (p (1 + k)) = true) : atZ p (k : Int) = p (1 + k) := atZ_yes (sq_true.2 ⟨by omega, by omega⟩) h
theorem pcB_ne {n : Int} (h : pcB n = true) : (n != 0) = true := by rw [pcB_true] at h; simp; omega
set_option maxRecDepth 100000 in
set_option maxHeartbeats 2000000 in
theorem rof_any (p : Nat → Int) (c q : Int) (w : World) (hp : BdR p) : Calls Tryd.prog 10 #[.agg (posA p), .int .u8 c, .int .u8 q] w (U64Post (ofN p c q) w) := by
  have HP := Lib.hid hp
  clear hp
  go_enter Tryd.func10, Tryd.ntmps10
  go_wp2_with (refine step_box rfl _ rfl p rfl ?_; intro b3 w3 N3 R3; have HN3 := Lib.hid N3; have HR3 := Lib.hid R3; clear N3 R3)
  go_loopw [7, 8] (fun x i wr => ∃ k : Nat, k ≤ 64 ∧ i = .int .i64 (k : Int) ∧ x = .int .u64 (setTo (ofB c q) p k : Nat) ∧ Below w.heap.size w wr ∧ Row wr b3 p) (fun _ i _ => 64 - (intOf i).toNat)
  case atStart => exact ⟨0, by omega, rfl, rfl, HN3.out.below, HR3.out⟩
  case round =>
    obtain ⟨k, hk, rfl, rfl, hb, hr⟩ := hrel
    have HB := Lib.hid hb
    have HR := Lib.hid hr
    clear hb hr
    by_cases hlt : k < 64
    · have HX := Lib.hid (setTo_lt (ofB c q) p k)
      have HY := Lib.hid (setTo_yes (f := ofB c q) (p := p) (k := k))
      have HN := Lib.hid (setTo_no (f := ofB c q) (p := p) (k := k))
      cases g0 : pcB (p (1 + k))
      · have HA := Lib.hid (at_n hlt g0)
        have HS := Lib.hid (show ofB c q (p (1 + k)) = false by simp [ofB, g0])
        clear g0
        go_wp2_with (refine step_load rfl _ rfl _ rfl p HR.out ?_)
        refine (rat_any p _ _ HP.out).mono ?_; rintro e w5 ⟨rfl, hb⟩; rw [HA.out]; have HB1 := Lib.hid (below_on HB.out hb); have HR1 := Lib.hid (HR.out.later hb); clear hb
        go_wp2_with fail
        go_roundw
        case rel => exact ⟨k + 1, by omega, by go_num, by rw [HN.out HS.out], HB1.out, HR1.out⟩
        case measure => simp [intOf]; omega
      · have HA := Lib.hid (at_y hlt g0)
        obtain ⟨r0, r1⟩ := HP.out k hlt
        have n0 := pcB_ne g0
        have HG := Lib.hid g0
        clear g0
        obtain ⟨n, Hn⟩ : ∃ n, Hid (p (1 + k) = n) := ⟨_, Lib.hid rfl⟩
        rw [Hn.out] at HA HG n0 r0 r1
        rw [Hn.out] at HY HN
        cases g1 : (colZ n == c)
        · have HS := Lib.hid (show ofB c q n = false by simp [ofB, g1])
          go_wp2_with (refine step_load rfl _ rfl _ rfl p HR.out ?_)
          refine (rat_any p _ _ HP.out).mono ?_; rintro e w5 ⟨rfl, hb⟩; rw [HA.out]; have HB1 := Lib.hid (below_on HB.out hb); have HR1 := Lib.hid (HR.out.later hb); clear hb
          go_wp2_with fail
          refine (rcol_any _ _).mono ?_; rintro e w6 ⟨rfl, hb⟩; have HB1 := Lib.hid (below_on HB1.out hb); have HR1 := Lib.hid (HR1.out.later hb); clear hb
          go_wp2_with fail
          go_roundw
          case rel => exact ⟨k + 1, by omega, by go_num, by rw [HN.out HS.out], HB1.out, HR1.out⟩
          case measure => simp [intOf]; omega
        · cases g2 : (q == 0)
          · cases g3 : (kndZ n == q)
            · have HS := Lib.hid (show ofB c q n = false by simp only [ofB, g1, g2, g3]; simp)
              go_wp2_with (refine step_load rfl _ rfl _ rfl p HR.out ?_)
              refine (rat_any p _ _ HP.out).mono ?_; rintro e w5 ⟨rfl, hb⟩; rw [HA.out]; have HB1 := Lib.hid (below_on HB.out hb); have HR1 := Lib.hid (HR.out.later hb); clear hb
              go_wp2_with fail
              refine (rcol_any _ _).mono ?_; rintro e w6 ⟨rfl, hb⟩; have HB1 := Lib.hid (below_on HB1.out hb); have HR1 := Lib.hid (HR1.out.later hb); clear hb
              go_wp2_with fail
              refine (rknd_any _ _).mono ?_; rintro e w7 ⟨rfl, hb⟩; have HB1 := Lib.hid (below_on HB1.out hb); have HR1 := Lib.hid (HR1.out.later hb); clear hb
              go_wp2_with fail
              go_roundw
              case rel => exact ⟨k + 1, by omega, by go_num, by rw [HN.out HS.out], HB1.out, HR1.out⟩
              case measure => simp [intOf]; omega
            · have HS := Lib.hid (show ofB c q n = true by simp only [ofB, HG.out, g1, g2, g3]; rfl)
              go_wp2_with (refine step_load rfl _ rfl _ rfl p HR.out ?_)
              refine (rat_any p _ _ HP.out).mono ?_; rintro e w5 ⟨rfl, hb⟩; rw [HA.out]; have HB1 := Lib.hid (below_on HB.out hb); have HR1 := Lib.hid (HR.out.later hb); clear hb
              go_wp2_with fail
              refine (rcol_any _ _).mono ?_; rintro e w6 ⟨rfl, hb⟩; have HB1 := Lib.hid (below_on HB1.out hb); have HR1 := Lib.hid (HR1.out.later hb); clear hb
              go_wp2_with fail
              refine (rknd_any _ _).mono ?_; rintro e w7 ⟨rfl, hb⟩; have HB1 := Lib.hid (below_on HB1.out hb); have HR1 := Lib.hid (HR1.out.later hb); clear hb
              go_wp2_with fail
              refine (rput_any _ _ _ HX.out).mono ?_; rintro e w8 ⟨rfl, rfl⟩
              go_wp2_with fail
              go_roundw
              case rel => exact ⟨k + 1, by omega, by go_num, by rw [HY.out HS.out], HB1.out, HR1.out⟩
              case measure => simp [intOf]; omega
          · have HS := Lib.hid (show ofB c q n = true by simp only [ofB, HG.out, g1, g2]; rfl)
            go_wp2_with (refine step_load rfl _ rfl _ rfl p HR.out ?_)
            refine (rat_any p _ _ HP.out).mono ?_; rintro e w5 ⟨rfl, hb⟩; rw [HA.out]; have HB1 := Lib.hid (below_on HB.out hb); have HR1 := Lib.hid (HR.out.later hb); clear hb
            go_wp2_with fail
            refine (rcol_any _ _).mono ?_; rintro e w6 ⟨rfl, hb⟩; have HB1 := Lib.hid (below_on HB1.out hb); have HR1 := Lib.hid (HR1.out.later hb); clear hb
            go_wp2_with fail
            refine (rput_any _ _ _ HX.out).mono ?_; rintro e w8 ⟨rfl, rfl⟩
            go_wp2_with fail
            go_roundw
            case rel => exact ⟨k + 1, by omega, by go_num, by rw [HY.out HS.out], HB1.out, HR1.out⟩
            case measure => simp [intOf]; omega
    · obtain rfl : k = 64 := by omega
      go_wp2_with fail
      go_ret
      exact ⟨rfl, HB.out⟩
end Go.Proofs.YtgodoipmnenohaaDoor
