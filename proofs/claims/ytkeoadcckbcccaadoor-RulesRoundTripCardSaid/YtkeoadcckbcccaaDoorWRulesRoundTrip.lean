/-
  The walk of RulesRoundTrip.
-/
import Derived.Test.YtkeoadcckbcccaaDoorRuAwake
import Derived.WalkKit
import Derived.OpenShut
namespace Go.Proofs.YtkeoadcckbcccaaDoor.rulesRoundTrip
open Go.RowKit
set_option linter.unusedVariables false
set_option linter.unusedSimpArgs false
set_option maxHeartbeats 1000000 in
theorem trip_a (v u : Nat) (w : World) (hv : v ≤ 255) (hu : u ≤ 255) (hv9 : v < 9) (hT : TabVar w) (hK : TabKn w) :
    Calls Tryd.prog 7 #[.int .u8 (v : Int), .int .u8 (v : Int)] w fun e w' => e = .returned (.bool true) ∧ Below w.heap.size w w' := by
  have HT := Lib.hid hT
  have HK := Lib.hid hK
  clear hT hK
  have HN := Lib.hid (show byK (nmZ v) 9 = some v by exact by_name hv9)
  have gv : decide ((v : Int) < 9) = true := decide_eq_true (by omega)
  have gv2 : decide ((9 : Int) ≤ (v : Int)) = false := decide_eq_false (by omega)
  clear hv9
  go_enter Tryd.func7, Tryd.ntmps7
  go_wp2_with fail
  have HB := Lib.hid (Below.refl w.heap.size w)
  refine (name_any v _ (by omega) (HT.out.on HB.out)).mono ?_; rintro e wn ⟨rfl, hb⟩; have HB := Lib.hid (below_on HB.out hb); clear hb
  go_wp2_with fail
  refine (byname_any (nmZ v) _ (HT.out.on HB.out)).mono ?_; rintro e wn ⟨rfl, hb⟩; have HB := Lib.hid (below_on HB.out hb); clear hb
  rw [HN.out]; simp only [oN, oB, Option.getD_some, Option.getD_none, Option.isSome_some, Option.isSome_none]
  go_wp2_with fail
  refine (name_any v _ (by omega) (HT.out.on HB.out)).mono ?_; rintro e wn ⟨rfl, hb⟩; have HB := Lib.hid (below_on HB.out hb); clear hb
  go_wp2_with fail
  refine (name_any v _ (by omega) (HT.out.on HB.out)).mono ?_; rintro e wn ⟨rfl, hb⟩; have HB := Lib.hid (below_on HB.out hb); clear hb
  go_wp2_with fail
  refine (rawake_any _ (HT.out.on HB.out) (HK.out.on HB.out)).mono ?_; rintro e wn ⟨rfl, hb⟩; have HB := Lib.hid (below_on HB.out hb); clear hb
  go_wp2_with fail
  go_ret
  exact ⟨rfl, HB.out⟩
set_option maxHeartbeats 1000000 in
theorem trip_b (v u : Nat) (w : World) (hv : v ≤ 255) (hu : u ≤ 255) (hv9 : v < 9) (hu9 : u < 9) (hn : v ≠ u) (hT : TabVar w) (hK : TabKn w) :
    Calls Tryd.prog 7 #[.int .u8 (v : Int), .int .u8 (u : Int)] w fun e w' => e = .returned (.bool true) ∧ Below w.heap.size w w' := by
  have HT := Lib.hid hT
  have HK := Lib.hid hK
  clear hT hK
  have HN := Lib.hid (show byK (nmZ v) 9 = some v by exact by_name hv9)
  have gv : decide ((v : Int) < 9) = true := decide_eq_true (by omega)
  have gv2 : decide ((9 : Int) ≤ (v : Int)) = false := decide_eq_false (by omega)
  have gs : ((nmZ v).toList == (nmZ u).toList) = false := str_ne.2 fun e => hn (nm_inj hv9 hu9 e)
  have gi : ((v : Int) == (u : Int)) = false := by simp; omega
  have gu : decide ((9 : Int) ≤ (u : Int)) = false := decide_eq_false (by omega)
  clear hu9 hn
  clear hv9
  go_enter Tryd.func7, Tryd.ntmps7
  go_wp2_with fail
  have HB := Lib.hid (Below.refl w.heap.size w)
  refine (name_any v _ (by omega) (HT.out.on HB.out)).mono ?_; rintro e wn ⟨rfl, hb⟩; have HB := Lib.hid (below_on HB.out hb); clear hb
  go_wp2_with fail
  refine (byname_any (nmZ v) _ (HT.out.on HB.out)).mono ?_; rintro e wn ⟨rfl, hb⟩; have HB := Lib.hid (below_on HB.out hb); clear hb
  rw [HN.out]; simp only [oN, oB, Option.getD_some, Option.getD_none, Option.isSome_some, Option.isSome_none]
  go_wp2_with fail
  refine (name_any v _ (by omega) (HT.out.on HB.out)).mono ?_; rintro e wn ⟨rfl, hb⟩; have HB := Lib.hid (below_on HB.out hb); clear hb
  go_wp2_with fail
  refine (name_any u _ (by omega) (HT.out.on HB.out)).mono ?_; rintro e wn ⟨rfl, hb⟩; have HB := Lib.hid (below_on HB.out hb); clear hb
  go_wp2_with fail
  refine (rawake_any _ (HT.out.on HB.out) (HK.out.on HB.out)).mono ?_; rintro e wn ⟨rfl, hb⟩; have HB := Lib.hid (below_on HB.out hb); clear hb
  go_wp2_with fail
  go_ret
  exact ⟨rfl, HB.out⟩
set_option maxHeartbeats 1000000 in
theorem trip_c (v u : Nat) (w : World) (hv : v ≤ 255) (hu : u ≤ 255) (hv9 : v < 9) (hu9 : 9 ≤ u) (hT : TabVar w) (hK : TabKn w) :
    Calls Tryd.prog 7 #[.int .u8 (v : Int), .int .u8 (u : Int)] w fun e w' => e = .returned (.bool true) ∧ Below w.heap.size w w' := by
  have HT := Lib.hid hT
  have HK := Lib.hid hK
  clear hT hK
  have HN := Lib.hid (show byK (nmZ v) 9 = some v by exact by_name hv9)
  have gv : decide ((v : Int) < 9) = true := decide_eq_true (by omega)
  have gv2 : decide ((9 : Int) ≤ (v : Int)) = false := decide_eq_false (by omega)
  have gs : ((nmZ v).toList == (nmZ u).toList) = false := str_ne.2 fun e => nm_some hv9 (e.trans (nm_none hu9))
  have gi : ((v : Int) == (u : Int)) = false := by simp; omega
  have gu : decide ((9 : Int) ≤ (u : Int)) = true := decide_eq_true (by omega)
  clear hu9
  clear hv9
  go_enter Tryd.func7, Tryd.ntmps7
  go_wp2_with fail
  have HB := Lib.hid (Below.refl w.heap.size w)
  refine (name_any v _ (by omega) (HT.out.on HB.out)).mono ?_; rintro e wn ⟨rfl, hb⟩; have HB := Lib.hid (below_on HB.out hb); clear hb
  go_wp2_with fail
  refine (byname_any (nmZ v) _ (HT.out.on HB.out)).mono ?_; rintro e wn ⟨rfl, hb⟩; have HB := Lib.hid (below_on HB.out hb); clear hb
  rw [HN.out]; simp only [oN, oB, Option.getD_some, Option.getD_none, Option.isSome_some, Option.isSome_none]
  go_wp2_with fail
  refine (name_any v _ (by omega) (HT.out.on HB.out)).mono ?_; rintro e wn ⟨rfl, hb⟩; have HB := Lib.hid (below_on HB.out hb); clear hb
  go_wp2_with fail
  refine (name_any u _ (by omega) (HT.out.on HB.out)).mono ?_; rintro e wn ⟨rfl, hb⟩; have HB := Lib.hid (below_on HB.out hb); clear hb
  go_wp2_with fail
  refine (rawake_any _ (HT.out.on HB.out) (HK.out.on HB.out)).mono ?_; rintro e wn ⟨rfl, hb⟩; have HB := Lib.hid (below_on HB.out hb); clear hb
  go_wp2_with fail
  go_ret
  exact ⟨rfl, HB.out⟩
set_option maxHeartbeats 1000000 in
theorem trip_d (v u : Nat) (w : World) (hv : v ≤ 255) (hu : u ≤ 255) (hv9 : 9 ≤ v) (hu9 : u < 9) (hT : TabVar w) (hK : TabKn w) :
    Calls Tryd.prog 7 #[.int .u8 (v : Int), .int .u8 (u : Int)] w fun e w' => e = .returned (.bool true) ∧ Below w.heap.size w w' := by
  have HT := Lib.hid hT
  have HK := Lib.hid hK
  clear hT hK
  have HN := Lib.hid (show byK (nmZ v) 9 = none by rw [nm_none hv9]; exact by_none)
  have gv : decide ((v : Int) < 9) = false := decide_eq_false (by omega)
  have gv2 : decide ((9 : Int) ≤ (v : Int)) = true := decide_eq_true (by omega)
  have gs : ((nmZ v).toList == (nmZ u).toList) = false := str_ne.2 fun e => nm_some hu9 (e.symm.trans (nm_none hv9))
  have gi : ((v : Int) == (u : Int)) = false := by simp; omega
  have gu : decide ((9 : Int) ≤ (u : Int)) = false := decide_eq_false (by omega)
  clear hu9
  clear hv9
  go_enter Tryd.func7, Tryd.ntmps7
  go_wp2_with fail
  have HB := Lib.hid (Below.refl w.heap.size w)
  refine (name_any v _ (by omega) (HT.out.on HB.out)).mono ?_; rintro e wn ⟨rfl, hb⟩; have HB := Lib.hid (below_on HB.out hb); clear hb
  go_wp2_with fail
  refine (byname_any (nmZ v) _ (HT.out.on HB.out)).mono ?_; rintro e wn ⟨rfl, hb⟩; have HB := Lib.hid (below_on HB.out hb); clear hb
  rw [HN.out]; simp only [oN, oB, Option.getD_some, Option.getD_none, Option.isSome_some, Option.isSome_none]
  go_wp2_with fail
  refine (name_any v _ (by omega) (HT.out.on HB.out)).mono ?_; rintro e wn ⟨rfl, hb⟩; have HB := Lib.hid (below_on HB.out hb); clear hb
  go_wp2_with fail
  refine (name_any u _ (by omega) (HT.out.on HB.out)).mono ?_; rintro e wn ⟨rfl, hb⟩; have HB := Lib.hid (below_on HB.out hb); clear hb
  go_wp2_with fail
  refine (rawake_any _ (HT.out.on HB.out) (HK.out.on HB.out)).mono ?_; rintro e wn ⟨rfl, hb⟩; have HB := Lib.hid (below_on HB.out hb); clear hb
  go_wp2_with fail
  go_ret
  exact ⟨rfl, HB.out⟩
set_option maxHeartbeats 1000000 in
theorem trip_e (v u : Nat) (w : World) (hv : v ≤ 255) (hu : u ≤ 255) (hv9 : 9 ≤ v) (hT : TabVar w) (hK : TabKn w) :
    Calls Tryd.prog 7 #[.int .u8 (v : Int), .int .u8 (v : Int)] w fun e w' => e = .returned (.bool true) ∧ Below w.heap.size w w' := by
  have HT := Lib.hid hT
  have HK := Lib.hid hK
  clear hT hK
  have HN := Lib.hid (show byK (nmZ v) 9 = none by rw [nm_none hv9]; exact by_none)
  have gv : decide ((v : Int) < 9) = false := decide_eq_false (by omega)
  have gv2 : decide ((9 : Int) ≤ (v : Int)) = true := decide_eq_true (by omega)
  clear hv9
  go_enter Tryd.func7, Tryd.ntmps7
  go_wp2_with fail
  have HB := Lib.hid (Below.refl w.heap.size w)
  refine (name_any v _ (by omega) (HT.out.on HB.out)).mono ?_; rintro e wn ⟨rfl, hb⟩; have HB := Lib.hid (below_on HB.out hb); clear hb
  go_wp2_with fail
  refine (byname_any (nmZ v) _ (HT.out.on HB.out)).mono ?_; rintro e wn ⟨rfl, hb⟩; have HB := Lib.hid (below_on HB.out hb); clear hb
  rw [HN.out]; simp only [oN, oB, Option.getD_some, Option.getD_none, Option.isSome_some, Option.isSome_none]
  go_wp2_with fail
  refine (name_any v _ (by omega) (HT.out.on HB.out)).mono ?_; rintro e wn ⟨rfl, hb⟩; have HB := Lib.hid (below_on HB.out hb); clear hb
  go_wp2_with fail
  refine (name_any v _ (by omega) (HT.out.on HB.out)).mono ?_; rintro e wn ⟨rfl, hb⟩; have HB := Lib.hid (below_on HB.out hb); clear hb
  go_wp2_with fail
  refine (rawake_any _ (HT.out.on HB.out) (HK.out.on HB.out)).mono ?_; rintro e wn ⟨rfl, hb⟩; have HB := Lib.hid (below_on HB.out hb); clear hb
  go_wp2_with fail
  go_ret
  exact ⟨rfl, HB.out⟩
set_option maxHeartbeats 1000000 in
theorem trip_g (v u : Nat) (w : World) (hv : v ≤ 255) (hu : u ≤ 255) (hv9 : 9 ≤ v) (hu9 : 9 ≤ u) (hn : v ≠ u) (hT : TabVar w) (hK : TabKn w) :
    Calls Tryd.prog 7 #[.int .u8 (v : Int), .int .u8 (u : Int)] w fun e w' => e = .returned (.bool true) ∧ Below w.heap.size w w' := by
  have HT := Lib.hid hT
  have HK := Lib.hid hK
  clear hT hK
  have HN := Lib.hid (show byK (nmZ v) 9 = none by rw [nm_none hv9]; exact by_none)
  have gv : decide ((v : Int) < 9) = false := decide_eq_false (by omega)
  have gv2 : decide ((9 : Int) ≤ (v : Int)) = true := decide_eq_true (by omega)
  have gs : ((nmZ v).toList == (nmZ u).toList) = true := str_eq.2 ((nm_none hv9).trans (nm_none hu9).symm)
  have gi : ((v : Int) == (u : Int)) = false := by simp; omega
  have gu : decide ((9 : Int) ≤ (u : Int)) = true := decide_eq_true (by omega)
  clear hu9 hn
  clear hv9
  go_enter Tryd.func7, Tryd.ntmps7
  go_wp2_with fail
  have HB := Lib.hid (Below.refl w.heap.size w)
  refine (name_any v _ (by omega) (HT.out.on HB.out)).mono ?_; rintro e wn ⟨rfl, hb⟩; have HB := Lib.hid (below_on HB.out hb); clear hb
  go_wp2_with fail
  refine (byname_any (nmZ v) _ (HT.out.on HB.out)).mono ?_; rintro e wn ⟨rfl, hb⟩; have HB := Lib.hid (below_on HB.out hb); clear hb
  rw [HN.out]; simp only [oN, oB, Option.getD_some, Option.getD_none, Option.isSome_some, Option.isSome_none]
  go_wp2_with fail
  refine (name_any v _ (by omega) (HT.out.on HB.out)).mono ?_; rintro e wn ⟨rfl, hb⟩; have HB := Lib.hid (below_on HB.out hb); clear hb
  go_wp2_with fail
  refine (name_any u _ (by omega) (HT.out.on HB.out)).mono ?_; rintro e wn ⟨rfl, hb⟩; have HB := Lib.hid (below_on HB.out hb); clear hb
  go_wp2_with fail
  refine (rawake_any _ (HT.out.on HB.out) (HK.out.on HB.out)).mono ?_; rintro e wn ⟨rfl, hb⟩; have HB := Lib.hid (below_on HB.out hb); clear hb
  go_wp2_with fail
  go_ret
  exact ⟨rfl, HB.out⟩
theorem walk (a0 a1 : Int) (w0 : (Lit.int .u8 a0).wf = true) (w1 : (Lit.int .u8 a1).wf = true) (w : World) (hT : TabVar w) (hK : TabKn w) :
    Calls Tryd.prog 7 #[.int .u8 a0, .int .u8 a1] w fun e w' => e = .returned (.bool true) ∧ Below w.heap.size w w' := by
  obtain ⟨v, hv, rfl⟩ := u8_of w0
  obtain ⟨u, hu, rfl⟩ := u8_of w1
  by_cases h9 : v < 9
  · by_cases hn : v = u
    · subst hn; exact trip_a v v w (by omega) (by omega) h9 hT hK
    · by_cases hu9 : u < 9
      · exact trip_b v u w (by omega) (by omega) h9 hu9 hn hT hK
      · exact trip_c v u w (by omega) (by omega) h9 (by omega) hT hK
  · by_cases hn : v = u
    · subst hn; exact trip_e v v w (by omega) (by omega) (by omega) hT hK
    · by_cases hu9 : u < 9
      · exact trip_d v u w (by omega) (by omega) (by omega) hu9 hT hK
      · exact trip_g v u w (by omega) (by omega) (by omega) (by omega) hn hT hK
end Go.Proofs.YtkeoadcckbcccaaDoor.rulesRoundTrip
