/-
  Contracts of the program's layer 3, third part: Between, Line.
-/
import Derived.Test.YtomhacepoeecjaaDoorRayWalk
namespace Go.Proofs.YtomhacepoeecjaaDoor
open Go.RowKit

theorem turnD4 (d : Nat) : turnD d 4 = (d + 4) % 8 := by unfold turnD; omega
theorem between_any (a b : Int) (w : World) (hT : TabLead w) : Calls Tryd.prog 24 #[.int .i64 a, .int .i64 b] w (U64L (betweenN a b) w) := by
  have HT := Lib.hid hT
  clear hT
  go_enter Tryd.func24, Tryd.ntmps24
  go_wp2_with fail
  refine (walker_any _ _).mono ?_; rintro e w1 ⟨B, rfl, hs, hb⟩
  have HS := Lib.hid hs
  have HB := Lib.hid hb
  have HT1 := Lib.hid (HT.out.next hb)
  clear hs hb
  go_wp2_with fail
  refine (heading_any _ _ _ _ HT1.out HS.out).mono ?_
  rintro e w' (⟨d, hd, h1, h2, rfl, rfl⟩ | ⟨h1, rfl, rfl⟩)
  · have HH := Lib.hid (between_hit hd h1 h2).1
    have HD := Lib.hid hd
    have HX := Lib.hid (and_nat (rayN_lt a (d : Int)) (rayN_lt b ((turnD d 4 : Nat) : Int)))
    clear h1 h2 hd
    unfold walkF
    go_wp2_with fail
    refine (walk_any _ _ _ _ HT1.out HS.out).mono ?_; rintro e w' ⟨rfl, rfl⟩
    go_wp2_with fail
    refine (turned_any d 4 _ HD.out (by decide)).mono ?_; rintro e w' ⟨rfl, rfl⟩
    go_wp2_with fail
    refine (ray_any _ _ _ HT1.out).mono ?_; rintro e w2 ⟨rfl, hb2⟩
    have HB2 := Lib.hid hb2
    clear hb2
    go_wp2
    go_ret
    exact ⟨ret_int (by rw [HX.out, HH.out, turnD4]), HB.out.trans (HB2.out.mono HB.out.size)⟩
  · have HH := Lib.hid (between_miss h1).1
    clear h1
    go_wp2
    go_ret
    exact ⟨ret_int (by rw [HH.out]; rfl), HB.out⟩
theorem line_any (a b : Int) (w : World) (hT : TabLead w) : Calls Tryd.prog 23 #[.int .i64 a, .int .i64 b] w (U64L (lineN a b) w) := by
  have HT := Lib.hid hT
  clear hT
  go_enter Tryd.func23, Tryd.ntmps23
  go_wp2_with fail
  refine (walker_any _ _).mono ?_; rintro e w1 ⟨B, rfl, hs, hb⟩
  have HS := Lib.hid hs
  have HB := Lib.hid hb
  have HT1 := Lib.hid (HT.out.next hb)
  clear hs hb
  go_wp2_with fail
  refine (heading_any _ _ _ _ HT1.out HS.out).mono ?_
  rintro e w' (⟨d, hd, h1, h2, rfl, rfl⟩ | ⟨h1, rfl, rfl⟩)
  · have HH := Lib.hid (between_hit hd h1 h2).2
    have HD := Lib.hid hd
    have HX := Lib.hid (or_nat (onlyN_lt a) (rayN_lt a (d : Int)))
    have HY := Lib.hid (or_nat (or_lt (onlyN_lt a) (rayN_lt a (d : Int))) (rayN_lt a ((turnD d 4 : Nat) : Int)))
    clear h1 h2 hd
    unfold walkF
    go_wp2_with fail
    refine (ronly_any _ _).mono ?_; rintro e w' ⟨rfl, rfl⟩
    go_wp2_with fail
    refine (walk_any _ _ _ _ HT1.out HS.out).mono ?_; rintro e w' ⟨rfl, rfl⟩
    go_wp2_with fail
    refine (turned_any d 4 _ HD.out (by decide)).mono ?_; rintro e w' ⟨rfl, rfl⟩
    go_wp2_with fail
    refine (walk_any _ _ _ _ HT1.out HS.out).mono ?_; rintro e w' ⟨rfl, rfl⟩
    go_wp2
    go_ret
    exact ⟨ret_int (by rw [HX.out, HY.out, HH.out, turnD4]), HB.out⟩
  · have HH := Lib.hid (between_miss h1).2
    clear h1
    go_wp2
    go_ret
    exact ⟨ret_int (by rw [HH.out]; rfl), HB.out⟩
end Go.Proofs.YtomhacepoeecjaaDoor
