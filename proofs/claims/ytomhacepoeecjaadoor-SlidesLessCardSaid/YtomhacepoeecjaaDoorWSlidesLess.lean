/-
  The walk of SlidesLess.
-/
import Derived.Test.YtomhacepoeecjaaDoorSlAwake
import Derived.Test.YtomhacepoeecjaaDoorSlRef
import Derived.Test.YtomhacepoeecjaaDoorSlLaw
import Derived.WalkKit
import Derived.OpenShut
namespace Go.Proofs.YtomhacepoeecjaaDoor.slidesLess
open Go.RowKit
set_option linter.unusedVariables false
set_option maxRecDepth 100000 in
set_option maxHeartbeats 4000000 in
theorem inner (a0 : Int) (o : Nat) (a2 : Int) (ho : o < W64) (w : World) (hD : TabDb w) (hT : TabLead w) :
    Calls Tryd.prog 6 #[.int .i64 a0, .int .u64 (o : Int), .int .i64 a2] w fun e w' => e = .returned (.bool true) ∧ Below w.heap.size w w' := by
  have HT0 := Lib.hid hT
  have HD0 := Lib.hid hD
  have HB0 := Lib.hid (Below.refl w.heap.size w)
  have HO := Lib.hid ho
  clear hT hD ho
  have HP := Lib.hid (putN_lt HO.out a2)
  have HX := Lib.hid (andNot_nat (queenN_lt a0 o) (queenN_lt a0 (putN o a2)))
  have HXl := Lib.hid (less_lt a0 a2 o)
  have z1 : bits BinOp.andNot IntKind.u64 ((queenN a0 (putN o a2) : Nat) : Int) ((queenN a0 o : Nat) : Int) = 0 := by rw [andNot_nat (queenN_lt _ _) (queenN_lt _ _), less_now]; rfl
  have z2 : bits BinOp.andNot IntKind.u64 ((queenN a0 o : Nat) : Int) ((queenN a0 0 : Nat) : Int) = 0 := by rw [andNot_nat (queenN_lt _ _) (queenN_lt _ _), less_was]; rfl
  have t := seen_put a0 a2 o
  have HW := Lib.hid (queenN_lt a0 o); have HN := Lib.hid (queenN_lt a0 (putN o a2))
  obtain ⟨x, HXx⟩ : ∃ x, Hid (x = queenN a0 o ^^^ (queenN a0 o &&& queenN a0 (putN o a2))) := ⟨_, Lib.hid rfl⟩
  rw [← HXx.out] at HX HXl
  have hlen := listN_len x
  go_enter Tryd.func6, Tryd.ntmps6
  go_wp2_with fail
  refine (sl_awake _ HD0.out HT0.out).mono ?_; rintro e w1 ⟨rfl, hb1⟩
  have HB1 := Lib.hid (below_on HB0.out hb1); have HT1 := Lib.hid (HT0.out.next hb1); have HD1 := Lib.hid (HD0.out.next hb1); clear hb1
  go_wp2_with fail
  refine (queen_any _ _ _ HO.out HD1.out HT1.out).mono ?_; rintro e w2 ⟨rfl, hb2⟩
  have HB2 := Lib.hid (below_on HB1.out hb2); have HT2 := Lib.hid (HT1.out.next hb2); have HD2 := Lib.hid (HD1.out.next hb2); clear hb2
  go_wp2_with fail
  refine (put_any _ _ _ HO.out).mono ?_; rintro e w' ⟨rfl, rfl⟩
  go_wp2_with fail
  refine (queen_any _ _ _ HP.out HD2.out HT2.out).mono ?_; rintro e w3 ⟨rfl, hb3⟩
  have HB3 := Lib.hid (below_on HB2.out hb3); have HT3 := Lib.hid (HT2.out.next hb3); have HD3 := Lib.hid (HD2.out.next hb3); clear hb3
  go_wp2_with fail
  refine (queen_any _ 0 _ (by decide) HD3.out HT3.out).mono ?_; rintro e w4 ⟨rfl, hb4⟩
  have HB4 := Lib.hid (below_on HB3.out hb4); have HT4 := Lib.hid (HT3.out.next hb4); have HD4 := Lib.hid (HD3.out.next hb4); clear hb4
  go_wp2_with fail
  rw [HX.out]
  refine (list_any x _ HXl.out HD4.out).mono ?_; rintro e w5 ⟨vl, rfl, hL, hb5⟩
  obtain ⟨pl, capl, rfl, hp⟩ := listed_open hL
  have HPl := Lib.hid hp
  clear hL hp
  have HB5 := Lib.hid (below_on HB4.out hb5); have HT5 := Lib.hid (HT4.out.next hb5); have HD5 := Lib.hid (HD4.out.next hb5); clear hb5
  go_wp2_with fail
  go_loopw [10] (fun i wr => ∃ k : Nat, k ≤ (listN x).length ∧ i = .int .i64 (k : Int) ∧ Below w5.heap.size w5 wr) (fun i _ => (listN x).length - (intOf i).toNat)
  case atStart => exact ⟨0, Nat.zero_le _, rfl, Below.refl _ _⟩
  case round =>
    obtain ⟨k, hk, rfl, hb6⟩ := hrel
    have HBl := Lib.hid hb6
    have HPl := Lib.hid (HPl.out.later hb6)
    have HB6 := Lib.hid (below_on HB5.out hb6); have HT6 := Lib.hid (HT5.out.next hb6); have HD6 := Lib.hid (HD5.out.next hb6); clear hb6
    by_cases hlt : k < (listN x).length
    · obtain ⟨s, HS⟩ : ∃ s, Hid ((listN x)[k]? = some s) := ⟨_, Lib.hid (List.getElem?_eq_getElem hlt)⟩
      have hbit : hasN (betweenN a0 (s : Int)) a2 = true := by
        have hm := List.mem_of_getElem? HS.out
        rw [mem_listN, HXx.out] at hm
        exact less_behind hm.2
      obtain ⟨g, rfl, hg1, hg2, hg3⟩ := HPl.out (by omega)
      have hc := (hg3 k s HS.out).1
      have HM := Lib.hid (betweenN_lt a0 (s : Int))
      clear hg1 hg2 hg3
      go_wp2_with fail
      refine (between_any _ _ _ HT6.out).mono ?_; rintro e w7 ⟨rfl, hb7⟩
      have HB7 := Lib.hid (below_on HB6.out hb7); have HBk := Lib.hid hb7; have HT7 := Lib.hid (HT6.out.next hb7); have HD7 := Lib.hid (HD6.out.next hb7); clear hb7
      go_wp2_with fail
      refine (has_any _ _ _ HM.out).mono ?_; rintro e w' ⟨rfl, rfl⟩
      go_wp2_with fail
      go_roundw
      case rel => exact ⟨k + 1, by omega, by go_num, HBl.out.trans (HBk.out.mono HBl.out.size)⟩
      case measure => simp [intOf]; omega
    · obtain rfl : k = (listN x).length := by omega
      go_wp2_with fail
      refine (has_any _ _ _ HW.out).mono ?_; rintro e w' ⟨rfl, rfl⟩
      go_wp2_with fail
      refine (has_any _ _ _ HN.out).mono ?_; rintro e w' ⟨rfl, rfl⟩
      go_wp2_with fail
      go_ret
      exact ⟨rfl, HB6.out⟩
theorem walk (a0 : Int) (a1 : Int) (a2 : Int) (w0 : (Lit.int .i64 a0).wf = true) (w1 : (Lit.int .u64 a1).wf = true) (w2 : (Lit.int .i64 a2).wf = true) (w : World) (hD : TabDb w) (hT : TabLead w) :
    Calls Tryd.prog 6 #[.int .i64 a0, .int .u64 a1, .int .i64 a2] w fun e w' => e = .returned (.bool true) ∧ Below w.heap.size w w' := by
  obtain ⟨o, rfl⟩ := Int.eq_ofNat_of_zero_le (a := a1) (bounds_u64 w1).1
  have ho : o < W64 := by have := (bounds_u64 w1).2; unfold W64; omega
  exact inner a0 o a2 ho w hD hT
end Go.Proofs.YtomhacepoeecjaaDoor.slidesLess
