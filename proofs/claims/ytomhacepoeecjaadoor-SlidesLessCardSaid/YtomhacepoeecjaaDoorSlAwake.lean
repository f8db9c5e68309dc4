/-
  The chapter's examples of layer 4, as the statements' own function 'awake' asks them; contracts at known answers.
-/
import Derived.Test.YtomhacepoeecjaaDoorSlides
import Derived.Test.YtomhacepoeecjaaDoorRayAwake
import Derived.Test.YtomhacepoeecjaaDoorSq
namespace Go.Proofs.YtomhacepoeecjaaDoor
open Go.RowKit

theorem dir_k {s d a r : Int} (o : Nat) (ha : (o : Int) = a) (ho : o < W64) (w : World) (hD : TabDb w) (hT : TabLead w) (hr : ((seenN s d o : Nat) : Int) = r) : Calls Tryd.prog 11 #[.int .i64 s, .int .i64 d, .int .u64 a] w (IntL .u64 r w) := by
  subst ha hr; exact dir_any s d o w ho hD hT
theorem rook_k {s a r : Int} (o : Nat) (ha : (o : Int) = a) (ho : o < W64) (w : World) (hD : TabDb w) (hT : TabLead w) (hr : ((rookN s o : Nat) : Int) = r) : Calls Tryd.prog 13 #[.int .i64 s, .int .u64 a] w (IntL .u64 r w) := by
  subst ha hr; exact rook_any s o w ho hD hT
theorem bish_k {s a r : Int} (o : Nat) (ha : (o : Int) = a) (ho : o < W64) (w : World) (hD : TabDb w) (hT : TabLead w) (hr : ((bishN s o : Nat) : Int) = r) : Calls Tryd.prog 15 #[.int .i64 s, .int .u64 a] w (IntL .u64 r w) := by
  subst ha hr; exact bish_any s o w ho hD hT
theorem queen_k {s a r : Int} (o : Nat) (ha : (o : Int) = a) (ho : o < W64) (w : World) (hD : TabDb w) (hT : TabLead w) (hr : ((queenN s o : Nat) : Int) = r) : Calls Tryd.prog 17 #[.int .i64 s, .int .u64 a] w (IntL .u64 r w) := by
  subst ha hr; exact queen_any s o w ho hD hT
theorem of_any3 (a b c : Int) (w : World) : Calls Tryd.prog 39 #[.int .i64 a, .int .i64 b, .int .i64 c] w (IntS .u64 ((putN (putN (putN 0 a) b) c : Nat) : Int) w) := by
  go_enter Tryd.func39, Tryd.ntmps39
  go_wp2_with fail
  refine (put_any 0 a _ (by decide)).mono ?_; rintro e w' ⟨rfl, rfl⟩
  go_wp2_with fail
  refine (put_any _ _ _ (putN_lt (by decide) _)).mono ?_; rintro e w' ⟨rfl, rfl⟩
  go_wp2_with fail
  refine (put_any _ _ _ (putN_lt (putN_lt (by decide) _) _)).mono ?_; rintro e w' ⟨rfl, rfl⟩
  go_wp2
  go_ret
  exact ⟨rfl, rfl⟩
theorem of_k {a b c r : Int} (w : World) (hr : ((putN (putN (putN 0 a) b) c : Nat) : Int) = r) : Calls Tryd.prog 39 #[.int .i64 a, .int .i64 b, .int .i64 c] w (IntS .u64 r w) := by
  subst hr; exact of_any3 a b c w
set_option maxRecDepth 100000 in
set_option maxHeartbeats 4000000 in
theorem sl_awake (w : World) (hD : TabDb w) (hT : TabLead w) : Calls Tryd.prog 19 #[] w (TrueL w) := by
  have HT0 := Lib.hid hT
  have HD0 := Lib.hid hD
  have HB0 := Lib.hid (Below.refl w.heap.size w)
  clear hT hD
  go_enter Tryd.func19, Tryd.ntmps19
  go_wp2_with fail
  refine (of_k (r := 1099528404992) _ (by decide +kernel)).mono ?_; rintro e w' ⟨rfl, rfl⟩
  go_wp2_with fail
  refine (dir_k (r := 16843008) 1099528404992 rfl (by decide) _ HD0.out HT0.out (by decide +kernel)).mono ?_; rintro e w1 ⟨rfl, hb1⟩
  have HB1 := Lib.hid (below_on HB0.out hb1); have HT1 := Lib.hid (HT0.out.next hb1); have HD1 := Lib.hid (HD0.out.next hb1); clear hb1
  go_wp2_with fail
  refine (of_k (r := 16843008) _ (by decide +kernel)).mono ?_; rintro e w' ⟨rfl, rfl⟩
  go_wp2_with fail
  refine (of_k (r := 16777216) _ (by decide +kernel)).mono ?_; rintro e w' ⟨rfl, rfl⟩
  go_wp2_with fail
  refine (dir_k (r := 72340172821233664) 16777216 rfl (by decide) _ HD1.out HT1.out (by decide +kernel)).mono ?_; rintro e w2 ⟨rfl, hb2⟩
  have HB2 := Lib.hid (below_on HB1.out hb2); have HT2 := Lib.hid (HT1.out.next hb2); have HD2 := Lib.hid (HD1.out.next hb2); clear hb2
  go_wp2_with fail
  refine (of_k (r := 282578783305728) _ (by decide +kernel)).mono ?_; rintro e w' ⟨rfl, rfl⟩
  go_wp2_with fail
  refine (put_k (r := 72340172821233664) 282578783305728 rfl (by decide) (by decide +kernel) _).mono ?_; rintro e w' ⟨rfl, rfl⟩
  go_wp2_with fail
  refine (of_k (r := 260) _ (by decide +kernel)).mono ?_; rintro e w' ⟨rfl, rfl⟩
  go_wp2_with fail
  refine (rook_k (r := 262) 260 rfl (by decide) _ HD2.out HT2.out (by decide +kernel)).mono ?_; rintro e w3 ⟨rfl, hb3⟩
  have HB3 := Lib.hid (below_on HB2.out hb3); have HT3 := Lib.hid (HT2.out.next hb3); have HD3 := Lib.hid (HD2.out.next hb3); clear hb3
  go_wp2_with fail
  refine (of_k (r := 262) _ (by decide +kernel)).mono ?_; rintro e w' ⟨rfl, rfl⟩
  go_wp2_with fail
  refine (bish_k (r := 141012904249856) 0 rfl (by decide) _ HD3.out HT3.out (by decide +kernel)).mono ?_; rintro e w4 ⟨rfl, hb4⟩
  have HB4 := Lib.hid (below_on HB3.out hb4); have HT4 := Lib.hid (HT3.out.next hb4); have HD4 := Lib.hid (HD3.out.next hb4); clear hb4
  go_wp2_with fail
  refine (count_k (r := 7) 141012904249856 rfl (by decide) (by decide +kernel) _).mono ?_; rintro e w' ⟨rfl, rfl⟩
  go_wp2_with fail
  refine (of_k (r := 49216) _ (by decide +kernel)).mono ?_; rintro e w' ⟨rfl, rfl⟩
  go_wp2_with fail
  refine (queen_k (r := 49216) 49216 rfl (by decide) _ HD4.out HT4.out (by decide +kernel)).mono ?_; rintro e w5 ⟨rfl, hb5⟩
  have HB5 := Lib.hid (below_on HB4.out hb5); have HT5 := Lib.hid (HT4.out.next hb5); have HD5 := Lib.hid (HD4.out.next hb5); clear hb5
  go_wp2_with fail
  refine (of_k (r := 49216) _ (by decide +kernel)).mono ?_; rintro e w' ⟨rfl, rfl⟩
  go_wp2_with fail
  refine (rook_k (r := 0) 0 rfl (by decide) _ HD5.out HT5.out (by decide +kernel)).mono ?_; rintro e w6 ⟨rfl, hb6⟩
  have HB6 := Lib.hid (below_on HB5.out hb6); have HT6 := Lib.hid (HT5.out.next hb6); have HD6 := Lib.hid (HD5.out.next hb6); clear hb6
  go_wp2_with fail
  go_ret
  exact ⟨rfl, HB6.out⟩
end Go.Proofs.YtomhacepoeecjaaDoor
