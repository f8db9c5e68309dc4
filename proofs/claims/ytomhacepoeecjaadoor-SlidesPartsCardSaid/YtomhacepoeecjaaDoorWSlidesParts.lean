/-
  The walk of SlidesParts.
-/
import Derived.Test.YtomhacepoeecjaaDoorSlAwake
import Derived.Test.YtomhacepoeecjaaDoorSlRef
import Derived.Test.YtomhacepoeecjaaDoorSlLaw
import Derived.WalkKit
import Derived.OpenShut
namespace Go.Proofs.YtomhacepoeecjaaDoor.slidesParts
open Go.RowKit
set_option linter.unusedVariables false
theorem even_tmod {x : Int} (h : x % 2 = 0) : (x.tmod 2 != 0) = false := by rw [Int.tmod_eq_zero_of_dvd (Int.dvd_of_emod_eq_zero h)]; rfl
set_option maxRecDepth 100000 in
set_option maxHeartbeats 4000000 in
theorem inner (a0 : Int) (o : Nat) (ho : o < W64) (w : World) (hD : TabDb w) (hT : TabLead w) :
    Calls Tryd.prog 8 #[.int .i64 a0, .int .u64 (o : Int)] w fun e w' => e = .returned (.bool true) ∧ Below w.heap.size w w' := by
  have HT0 := Lib.hid hT
  have HD0 := Lib.hid hD
  have HB0 := Lib.hid (Below.refl w.heap.size w)
  have HO := Lib.hid ho
  clear hT hD ho
  have HR := Lib.hid (rookN_lt a0 o); have HI := Lib.hid (bishN_lt a0 o); have HQ := Lib.hid (queenN_lt a0 o)
  have HX := Lib.hid ((or_nat HR.out HI.out).trans (congrArg Int.ofNat (queen_ref a0 o)))
  have z1 : bits BinOp.and IntKind.u64 ((rookN a0 o : Nat) : Int) ((bishN a0 o : Nat) : Int) = 0 := by rw [and_nat HR.out HI.out, parts_none]; rfl
  have z2 : bits BinOp.or IntKind.u64 ((rookN a0 o : Nat) : Int) ((bishN a0 o : Nat) : Int) = ((queenN a0 o : Nat) : Int) := HX.out
  have z3 : hasN (queenN a0 o) a0 = false := parts_own a0 o
  obtain ⟨x, HXx⟩ : ∃ x, Hid (x = rookN a0 o) := ⟨_, Lib.hid rfl⟩
  obtain ⟨y, HYy⟩ : ∃ y, Hid (y = bishN a0 o) := ⟨_, Lib.hid rfl⟩
  have hlx := listN_len x
  have hly := listN_len y
  have HXl := Lib.hid (show x < W64 by rw [HXx.out]; exact HR.out)
  have HYl := Lib.hid (show y < W64 by rw [HYy.out]; exact HI.out)
  obtain ⟨f0, f1⟩ := fileZ_rng a0
  obtain ⟨r0, r1⟩ := rankZ_rng a0
  go_enter Tryd.func8, Tryd.ntmps8
  go_wp2_with fail
  refine (sl_awake _ HD0.out HT0.out).mono ?_; rintro e w1 ⟨rfl, hb1⟩
  have HB1 := Lib.hid (below_on HB0.out hb1); have HT1 := Lib.hid (HT0.out.next hb1); have HD1 := Lib.hid (HD0.out.next hb1); clear hb1
  go_wp2_with fail
  refine (rook_any _ _ _ HO.out HD1.out HT1.out).mono ?_; rintro e w2 ⟨rfl, hb2⟩
  have HB2 := Lib.hid (below_on HB1.out hb2); have HT2 := Lib.hid (HT1.out.next hb2); have HD2 := Lib.hid (HD1.out.next hb2); clear hb2
  go_wp2_with fail
  refine (bish_any _ _ _ HO.out HD2.out HT2.out).mono ?_; rintro e w3 ⟨rfl, hb3⟩
  have HB3 := Lib.hid (below_on HB2.out hb3); have HT3 := Lib.hid (HT2.out.next hb3); have HD3 := Lib.hid (HD2.out.next hb3); clear hb3
  go_wp2_with fail
  refine (queen_any _ _ _ HO.out HD3.out HT3.out).mono ?_; rintro e w4 ⟨rfl, hb4⟩
  have HB4 := Lib.hid (below_on HB3.out hb4); have HT4 := Lib.hid (HT3.out.next hb4); have HD4 := Lib.hid (HD3.out.next hb4); clear hb4
  go_wp2_with fail
  refine (has_any _ _ _ HQ.out).mono ?_; rintro e w' ⟨rfl, rfl⟩
  go_wp2_with fail
  rw [← HXx.out]
  refine (list_any x _ HXl.out HD4.out).mono ?_; rintro e w5 ⟨vl, rfl, hL, hb5⟩
  obtain ⟨pl, capl, rfl, hp⟩ := listed_open hL
  have HPl := Lib.hid hp
  clear hL hp
  have HB5 := Lib.hid (below_on HB4.out hb5); have HT5 := Lib.hid (HT4.out.next hb5); have HD5 := Lib.hid (HD4.out.next hb5); clear hb5
  go_wp2_with fail
  go_loopw [8] (fun i wr => ∃ k : Nat, k ≤ (listN x).length ∧ i = .int .i64 (k : Int) ∧ Below w5.heap.size w5 wr) (fun i _ => (listN x).length - (intOf i).toNat)
  case atStart => exact ⟨0, Nat.zero_le _, rfl, Below.refl _ _⟩
  case round =>
    obtain ⟨k, hk, rfl, hb6⟩ := hrel
    have HBl := Lib.hid hb6
    have HPl := Lib.hid (HPl.out.later hb6)
    have HB6 := Lib.hid (below_on HB5.out hb6); have HT6 := Lib.hid (HT5.out.next hb6); have HD6 := Lib.hid (HD5.out.next hb6); clear hb6
    by_cases hlt : k < (listN x).length
    · obtain ⟨s, HS⟩ : ∃ s, Hid ((listN x)[k]? = some s) := ⟨_, Lib.hid (List.getElem?_eq_getElem hlt)⟩
      have hq : fileZ (s : Int) = fileZ a0 ∨ rankZ (s : Int) = rankZ a0 := by
        have hm := List.mem_of_getElem? HS.out
        rw [mem_listN, HXx.out] at hm
        exact parts_rook hm.2
      obtain ⟨g, rfl, hg1, hg2, hg3⟩ := HPl.out (by omega)
      have hc := (hg3 k s HS.out).1
      clear hg1 hg2 hg3
      cases hf : (fileZ (s : Int) != fileZ a0)
      · have HF := Lib.hid hf
        go_wp2_with fail
        refine (file_any _ _).mono ?_; rintro e w' ⟨rfl, rfl⟩
        go_wp2_with fail
        refine (file_any _ _).mono ?_; rintro e w' ⟨rfl, rfl⟩
        go_wp2_with fail
        go_roundw
        case rel => exact ⟨k + 1, by omega, by go_num, HBl.out⟩
        case measure => simp [intOf]; omega
      · have hr : rankZ (s : Int) = rankZ a0 := by rcases hq with h | h; rw [h] at hf; simp at hf; exact h
        clear hq
        go_wp2_with fail
        refine (file_any _ _).mono ?_; rintro e w' ⟨rfl, rfl⟩
        go_wp2_with fail
        refine (file_any _ _).mono ?_; rintro e w' ⟨rfl, rfl⟩
        go_wp2_with fail
        refine (rank_any _ _).mono ?_; rintro e w' ⟨rfl, rfl⟩
        go_wp2_with fail
        refine (rank_any _ _).mono ?_; rintro e w' ⟨rfl, rfl⟩
        go_wp2_with fail
        go_roundw
        case rel => exact ⟨k + 1, by omega, by go_num, HBl.out⟩
        case measure => simp [intOf]; omega
    · obtain rfl : k = (listN x).length := by omega
      go_wp2_with fail
      rw [← HYy.out]
      refine (list_any y _ HYl.out HD6.out).mono ?_; rintro e w7 ⟨vm, rfl, hL, hb7⟩
      obtain ⟨pm, capm, rfl, hp⟩ := listed_open hL
      have HPm := Lib.hid hp
      clear hL hp
      have HB7 := Lib.hid (below_on HB6.out hb7); have HT7 := Lib.hid (HT6.out.next hb7); have HD7 := Lib.hid (HD6.out.next hb7); clear hb7
      go_wp2_with fail
      go_loopw [9] (fun i wr => ∃ k : Nat, k ≤ (listN y).length ∧ i = .int .i64 (k : Int) ∧ Below w7.heap.size w7 wr) (fun i _ => (listN y).length - (intOf i).toNat)
      case atStart => exact ⟨0, Nat.zero_le _, rfl, Below.refl _ _⟩
      case round =>
        obtain ⟨k, hk, rfl, hb8⟩ := hrel
        have HBm := Lib.hid hb8
        have HPm := Lib.hid (HPm.out.later hb8)
        have HB8 := Lib.hid (below_on HB7.out hb8); have HT8 := Lib.hid (HT7.out.next hb8); have HD8 := Lib.hid (HD7.out.next hb8); clear hb8
        by_cases hlt : k < (listN y).length
        · obtain ⟨s, HS⟩ : ∃ s, Hid ((listN y)[k]? = some s) := ⟨_, Lib.hid (List.getElem?_eq_getElem hlt)⟩
          have hq : (((((fileZ (s : Int) + rankZ (s : Int)) + fileZ a0) + rankZ a0)).tmod 2 != 0) = false := by
            have hm := List.mem_of_getElem? HS.out
            rw [mem_listN, HYy.out] at hm
            exact even_tmod (parts_bish hm.2)
          obtain ⟨g, rfl, hg1, hg2, hg3⟩ := HPm.out (by omega)
          have hc := (hg3 k s HS.out).1
          obtain ⟨f2, f3⟩ := fileZ_rng (s : Int)
          obtain ⟨r2, r3⟩ := rankZ_rng (s : Int)
          clear hg1 hg2 hg3
          go_wp2
          go_quiet ((first | (go_at_call 28; exact quiet_c (file_any _ _)) | (go_at_call 29; exact quiet_c (rank_any _ _))))
          go_wp2_with fail
          go_roundw
          case rel => exact ⟨k + 1, by omega, by go_num, below_drewN HBm.out _⟩
          case measure => simp [intOf]; omega
        · go_wp2_with fail
          go_ret
          exact ⟨rfl, HB8.out⟩
theorem walk (a0 : Int) (a1 : Int) (w0 : (Lit.int .i64 a0).wf = true) (w1 : (Lit.int .u64 a1).wf = true) (w : World) (hD : TabDb w) (hT : TabLead w) :
    Calls Tryd.prog 8 #[.int .i64 a0, .int .u64 a1] w fun e w' => e = .returned (.bool true) ∧ Below w.heap.size w w' := by
  obtain ⟨o, rfl⟩ := Int.eq_ofNat_of_zero_le (a := a1) (bounds_u64 w1).1
  have ho : o < W64 := by have := (bounds_u64 w1).2; unfold W64; omega
  exact inner a0 o ho w hD hT
end Go.Proofs.YtomhacepoeecjaaDoor.slidesParts
