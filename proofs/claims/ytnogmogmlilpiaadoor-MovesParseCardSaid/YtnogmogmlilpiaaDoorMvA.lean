/-
  Contracts of layer 11's small functions: isSome, endsText, onHome, side, isWritten, readKind.
-/
import Derived.Test.YtnogmogmlilpiaaDoorMvMath
import Derived.Test.YtnogmogmlilpiaaDoorArr
import Derived.Test.YtnogmogmlilpiaaDoorPcText
namespace Go.Proofs.YtnogmogmlilpiaaDoor
open Go.RowKit
set_option linter.unusedVariables false
set_option linter.unusedSimpArgs false

/-- The numbers of a position, of a move fit their kinds (layer 11). -/
structure FitM (p : Nat → Int) : Prop where
  var : 0 ≤ p 0 ∧ p 0 ≤ 255
  turn : 0 ≤ p 78 ∧ p 78 ≤ 255
  rook : ∀ i, 79 ≤ i → i < 83 → -128 ≤ p i ∧ p i ≤ 127
structure FitV (m : Mv) : Prop where
  f : -128 ≤ m.f ∧ m.f ≤ 127
  t : -128 ≤ m.t ∧ m.t ≤ 127
  pr : 0 ≤ m.pr ∧ m.pr ≤ 255
  dr : 0 ≤ m.dr ∧ m.dr ≤ 255
theorem sizeMv : (Tryd.prog.info? 33).map (·.size) = some 5 := by kernel_rfl
theorem zeroMv : (Tryd.prog.info? 33).map (fun i => (i.zero, i.size)) = some (some (.agg (mvA mv0)), 5) := by kernel_rfl
theorem mv_one (m : Mv) : (mvA m).all (·.oneCell') = true := by simp [mvA, Value.oneCell']
theorem mv_str {a b : ByteArray} (h : a = b) : Ending.returned (.string a) = .returned (.string b) := by rw [h]
set_option maxRecDepth 100000 in
set_option maxHeartbeats 1000000 in
theorem some_any (p : Nat → Int) (w : World) : Calls Tryd.prog 6 #[.agg (posA p)] w (BoL (smB p) w) := by
  cases g0 : decide (p 0 < 9)
  · have HS := Lib.hid (show smB p = false by unfold smB; rw [g0]; rfl)
    go_enter Tryd.func6, Tryd.ntmps6
    go_wp2_with (first
      | (refine step_box rfl _ rfl p rfl ?_; intro b0 w1 N R; have HB := Lib.hid N.below; have HR := Lib.hid R; clear N R)
      | (refine step_get rfl 5 _ rfl b0 0 rfl Tryd.underlying5 rfl (.int .u8 (p 0)) ?_ ?_; exact HR.out.cell 0 (by decide)))
    go_ret
    exact ⟨by rw [HS.out]; rfl, HB.out⟩
  · cases g1 : decide (p 78 ≤ 1)
    · have HS := Lib.hid (show smB p = false by unfold smB; rw [g0, g1]; rfl)
      go_enter Tryd.func6, Tryd.ntmps6
      go_wp2_with (first
        | (refine step_box rfl _ rfl p rfl ?_; intro b0 w1 N R; have HB := Lib.hid N.below; have HR := Lib.hid R; clear N R)
        | (refine step_get rfl 5 _ rfl b0 0 rfl Tryd.underlying5 rfl (.int .u8 (p 0)) ?_ ?_; exact HR.out.cell 0 (by decide))
        | (refine step_get rfl 5 _ rfl b0 78 rfl Tryd.underlying5 rfl (.int .u8 (p 78)) ?_ ?_; exact HR.out.cell 78 (by decide)))
      go_ret
      exact ⟨by rw [HS.out]; rfl, HB.out⟩
    · have HS := Lib.hid (show smB p = true by unfold smB; rw [g0, g1]; rfl)
      go_enter Tryd.func6, Tryd.ntmps6
      go_wp2_with (first
        | (refine step_box rfl _ rfl p rfl ?_; intro b0 w1 N R; have HB := Lib.hid N.below; have HR := Lib.hid R; clear N R)
        | (refine step_get rfl 5 _ rfl b0 0 rfl Tryd.underlying5 rfl (.int .u8 (p 0)) ?_ ?_; exact HR.out.cell 0 (by decide))
        | (refine step_get rfl 5 _ rfl b0 78 rfl Tryd.underlying5 rfl (.int .u8 (p 78)) ?_ ?_; exact HR.out.cell 78 (by decide)))
      go_ret
      exact ⟨by rw [HS.out]; rfl, HB.out⟩
theorem sqM_empty (s : Int) : (textZ s).toList.isEmpty = !sqB s := by
  rw [Lib.toList_data]
  show (sqM s).isEmpty = _
  cases h : sqB s
  · rw [sqM_no h]; rfl
  · obtain ⟨x, y, e, _⟩ := sqM_two h
    rw [e]; rfl
theorem sqM_size (s : Int) : (textZ s).size ≤ 2 := by
  rw [sqM_bz, bz_size]
  cases h : sqB s
  · rw [sqM_no h]; decide
  · obtain ⟨x, y, e, _⟩ := sqM_two h
    rw [e]; exact Nat.le_refl 2
theorem sqM_eq {f t : Int} (hf : sqB f = true) (ht : sqB t = true) : ((textZ f).toList == (textZ t).toList) = (f == t) := by
  rw [Bool.eq_iff_iff, beq_iff_eq, beq_iff_eq, Lib.toList_data, Lib.toList_data]
  exact ⟨fun h => sqM_inj hf ht h, fun h => by rw [h]⟩
theorem enL_bz {f t : Int} (h : (sqB f && sqB t && (f != t)) = true) : bz (enL f t) = textZ f ++ textZ t := by
  rw [enL_yes h, sqM_bz, sqM_bz, bz_app]
set_option maxRecDepth 100000 in
set_option maxHeartbeats 1000000 in
theorem ends_any (f t : Int) (w : World) (hf : -128 ≤ f ∧ f ≤ 127) (ht : -128 ≤ t ∧ t ≤ 127) : Calls Tryd.prog 41 #[.int .i8 f, .int .i8 t] w (StL (bz (enL f t)) w) := by
  obtain ⟨f0, f1⟩ := hf
  obtain ⟨t0, t1⟩ := ht
  obtain ⟨x, hx⟩ : ∃ x, textZ f = x := ⟨_, rfl⟩
  obtain ⟨y, hy⟩ : ∃ y, textZ t = y := ⟨_, rfl⟩
  have HX := Lib.hid hx
  have HY := Lib.hid hy
  have HB := Lib.hid (Below.refl w.heap.size w)
  have ex := sqM_empty f
  have ey := sqM_empty t
  have sx := sqM_size f
  have sy := sqM_size t
  rw [hx] at ex sx
  rw [hy] at ey sy
  cases h1 : sqB f
  · have HS := Lib.hid (enL_no (show (sqB f && sqB t && (f != t)) = false by rw [h1]; rfl))
    rw [h1] at ex
    replace ex : x.toList.isEmpty = true := ex
    clear h1 ey sx sy hx hy
    go_enter Tryd.func41, Tryd.ntmps41
    go_wp2_with (go_at_call 39; refine (text_any _ _).mono ?_; rintro e w1 ⟨rfl, hb⟩; (first | rw [HX.out] | rw [HY.out]); have HB := Lib.hid (below_on HB.out hb); clear hb)
    go_ret
    exact ⟨by rw [HS.out]; rfl, HB.out⟩
  · cases h2 : sqB t
    · have HS := Lib.hid (enL_no (show (sqB f && sqB t && (f != t)) = false by rw [h1, h2]; rfl))
      rw [h1] at ex
      rw [h2] at ey
      replace ex : x.toList.isEmpty = false := ex
      replace ey : y.toList.isEmpty = true := ey
      clear h1 h2 sx sy hx hy
      go_enter Tryd.func41, Tryd.ntmps41
      go_wp2_with (go_at_call 39; refine (text_any _ _).mono ?_; rintro e w1 ⟨rfl, hb⟩; (first | rw [HX.out] | rw [HY.out]); have HB := Lib.hid (below_on HB.out hb); clear hb)
      go_ret
      exact ⟨by rw [HS.out]; rfl, HB.out⟩
    · have exy := sqM_eq h1 h2
      rw [hx, hy] at exy
      rw [h1] at ex
      rw [h2] at ey
      replace ex : x.toList.isEmpty = false := ex
      replace ey : y.toList.isEmpty = false := ey
      cases h3 : (f == t)
      · have HS := Lib.hid (enL_bz (show (sqB f && sqB t && (f != t)) = true by rw [h1, h2]; simp at h3 ⊢; exact h3))
        rw [h3] at exy
        have k1 : ¬ (9223372036854775807 < x.size + y.size) := by omega
        clear h1 h2 h3 sx sy hx hy
        go_enter Tryd.func41, Tryd.ntmps41
        go_wp2_with (go_at_call 39; refine (text_any _ _).mono ?_; rintro e w1 ⟨rfl, hb⟩; (first | rw [HX.out] | rw [HY.out]); have HB := Lib.hid (below_on HB.out hb); clear hb)
        go_ret
        exact ⟨by rw [HS.out, HX.out, HY.out]; rfl, HB.out⟩
      · have HS := Lib.hid (enL_no (show (sqB f && sqB t && (f != t)) = false by rw [h1, h2]; simp at h3 ⊢; exact h3))
        rw [h3] at exy
        clear h1 h2 h3 sx sy hx hy
        go_enter Tryd.func41, Tryd.ntmps41
        go_wp2_with (go_at_call 39; refine (text_any _ _).mono ?_; rintro e w1 ⟨rfl, hb⟩; (first | rw [HX.out] | rw [HY.out]); have HB := Lib.hid (below_on HB.out hb); clear hb)
        go_ret
        exact ⟨by rw [HS.out]; rfl, HB.out⟩
def I8L (n : Int) (w : World) (e : Ending) (w' : World) : Prop := e = .returned (.int .i8 n) ∧ Below w.heap.size w w'
theorem smB_turn {p : Nat → Int} (h : smB p = true) (h0 : 0 ≤ p 78) : p 78 = 0 ∨ p 78 = 1 := by
  unfold smB at h
  simp only [Bool.and_eq_true, decide_eq_true_eq] at h
  omega
theorem hm_of {p : Nat → Int} {r : Int} (k : Int) (hr : r = 7 * p 78) (ht : p 78 = 0 ∨ p 78 = 1) : ofOk k r = lnB k ∧ (lnB k = true → ofZ k r = hmZ p k) ∧ -128 ≤ ofZ k r ∧ ofZ k r ≤ 127 := by
  have e : ofOk k r = lnB k := by
    unfold ofOk
    rw [show lnB r = true by rw [lnB_true]; omega, Bool.and_true]
  refine ⟨e, fun h => ?_, ?_⟩
  · rw [ofZ_yes (e.trans h)]
    unfold hmZ; rw [h]
    show 8 * r + k = 56 * p 78 + k
    omega
  · cases h : ofOk k r
    · rw [ofZ_no h]; decide
    · rw [ofZ_yes h]; rw [e, lnB_true] at h; omega
set_option maxRecDepth 100000 in
set_option maxHeartbeats 1000000 in
theorem home_any (p : Nat → Int) (k : Int) (w : World) (ht : p 78 = 0 ∨ p 78 = 1) : Calls Tryd.prog 30 #[.agg (posA p), .int .i64 k] w (I8L (hmZ p k) w) := by
  cases h1 : (p 78 == 1)
  · have hr : (0 : Int) = 7 * p 78 := by rw [beq_eq_false_iff_ne] at h1; omega
    obtain ⟨e1, e2, e3, e4⟩ := hm_of k hr ht
    obtain ⟨z, hz⟩ : ∃ z, ofZ k 0 = z := ⟨_, rfl⟩
    rw [hz] at e2 e3 e4
    have HZ := Lib.hid hz
    cases h2 : lnB k
    · have HO := Lib.hid (e1.trans h2)
      have HS := Lib.hid (show hmZ p k = -1 by unfold hmZ; rw [h2]; rfl)
      clear e1 e2 e3 e4 h2 hr ht hz
      go_enter Tryd.func30, Tryd.ntmps30
      go_wp2_with (first
        | (refine step_box rfl _ rfl p rfl ?_; intro b0 w1 N R; have HB := Lib.hid N.below; have HR := Lib.hid R; clear N R)
        | (refine step_get rfl 5 _ rfl b0 78 rfl Tryd.underlying5 rfl (.int .u8 (p 78)) ?_ ?_; exact HR.out.cell 78 (by decide))
        | (go_at_call 42; refine (sqof_any _ _ _).mono ?_; rintro e w' ⟨rfl, rfl⟩; rw [HZ.out, HO.out]))
      go_ret
      exact ⟨by rw [HS.out]; rfl, HB.out⟩
    · have HO := Lib.hid (e1.trans h2)
      have HS := Lib.hid (e2 h2)
      clear e1 e2 h2 hr ht hz
      go_enter Tryd.func30, Tryd.ntmps30
      go_wp2_with (first
        | (refine step_box rfl _ rfl p rfl ?_; intro b0 w1 N R; have HB := Lib.hid N.below; have HR := Lib.hid R; clear N R)
        | (refine step_get rfl 5 _ rfl b0 78 rfl Tryd.underlying5 rfl (.int .u8 (p 78)) ?_ ?_; exact HR.out.cell 78 (by decide))
        | (go_at_call 42; refine (sqof_any _ _ _).mono ?_; rintro e w' ⟨rfl, rfl⟩; rw [HZ.out, HO.out]))
      go_ret
      exact ⟨by rw [HS.out]; rfl, HB.out⟩
  · have hr : (7 : Int) = 7 * p 78 := by rw [beq_iff_eq] at h1; omega
    obtain ⟨e1, e2, e3, e4⟩ := hm_of k hr ht
    obtain ⟨z, hz⟩ : ∃ z, ofZ k 7 = z := ⟨_, rfl⟩
    rw [hz] at e2 e3 e4
    have HZ := Lib.hid hz
    cases h2 : lnB k
    · have HO := Lib.hid (e1.trans h2)
      have HS := Lib.hid (show hmZ p k = -1 by unfold hmZ; rw [h2]; rfl)
      clear e1 e2 e3 e4 h2 hr ht hz
      go_enter Tryd.func30, Tryd.ntmps30
      go_wp2_with (first
        | (refine step_box rfl _ rfl p rfl ?_; intro b0 w1 N R; have HB := Lib.hid N.below; have HR := Lib.hid R; clear N R)
        | (refine step_get rfl 5 _ rfl b0 78 rfl Tryd.underlying5 rfl (.int .u8 (p 78)) ?_ ?_; exact HR.out.cell 78 (by decide))
        | (go_at_call 42; refine (sqof_any _ _ _).mono ?_; rintro e w' ⟨rfl, rfl⟩; rw [HZ.out, HO.out]))
      go_ret
      exact ⟨by rw [HS.out]; rfl, HB.out⟩
    · have HO := Lib.hid (e1.trans h2)
      have HS := Lib.hid (e2 h2)
      clear e1 e2 h2 hr ht hz
      go_enter Tryd.func30, Tryd.ntmps30
      go_wp2_with (first
        | (refine step_box rfl _ rfl p rfl ?_; intro b0 w1 N R; have HB := Lib.hid N.below; have HR := Lib.hid R; clear N R)
        | (refine step_get rfl 5 _ rfl b0 78 rfl Tryd.underlying5 rfl (.int .u8 (p 78)) ?_ ?_; exact HR.out.cell 78 (by decide))
        | (go_at_call 42; refine (sqof_any _ _ _).mono ?_; rintro e w' ⟨rfl, rfl⟩; rw [HZ.out, HO.out]))
      go_ret
      exact ⟨by rw [HS.out]; rfl, HB.out⟩
set_option maxRecDepth 100000 in
set_option maxHeartbeats 1000000 in
theorem side_any (m : Mv) (w : World) : Calls Tryd.prog 31 #[.agg (mvA m)] w (IntL (sdN m.f m.t : Nat) w) := by
  cases h1 : decide (m.f < m.t)
  · have HS := Lib.hid (show sdN m.f m.t = 1 by unfold sdN; rw [h1]; rfl)
    go_enter Tryd.func31, Tryd.ntmps31
    go_wp2_with (first
      | (refine blk_box rfl 33 _ rfl (mvA m) rfl ?_; intro b0 w1 N R; have HB := Lib.hid N.below; have HR := Lib.hid R; clear N R)
      | (refine step_get rfl 26 _ rfl b0 1 rfl Tryd.underlying26 rfl (.int .i8 m.t) ?_ ?_; exact HR.out.cell 1)
      | (refine step_get rfl 26 _ rfl b0 0 rfl Tryd.underlying26 rfl (.int .i8 m.f) ?_ ?_; exact HR.out.cell 0))
    go_ret
    exact ⟨by rw [HS.out]; rfl, HB.out⟩
  · have HS := Lib.hid (show sdN m.f m.t = 0 by unfold sdN; rw [h1]; rfl)
    go_enter Tryd.func31, Tryd.ntmps31
    go_wp2_with (first
      | (refine blk_box rfl 33 _ rfl (mvA m) rfl ?_; intro b0 w1 N R; have HB := Lib.hid N.below; have HR := Lib.hid R; clear N R)
      | (refine step_get rfl 26 _ rfl b0 1 rfl Tryd.underlying26 rfl (.int .i8 m.t) ?_ ?_; exact HR.out.cell 1)
      | (refine step_get rfl 26 _ rfl b0 0 rfl Tryd.underlying26 rfl (.int .i8 m.f) ?_ ?_; exact HR.out.cell 0))
    go_ret
    exact ⟨by rw [HS.out]; rfl, HB.out⟩
def BoS (b : Bool) (w : World) (e : Ending) (w' : World) : Prop := e = .returned (.bool b) ∧ w = w'
set_option maxRecDepth 100000 in
theorem isW_any (a b : List UInt8) (w : World) : Calls Tryd.prog 13 #[.string (bz a), .string (bz b)] w (BoS (isW a b) w) := by
  obtain ⟨x, hx⟩ : ∃ x, bz a = x := ⟨_, rfl⟩
  obtain ⟨y, hy⟩ : ∃ y, bz b = y := ⟨_, rfl⟩
  have e1 : x.toList.isEmpty = a.isEmpty := by rw [← hx, bz_toList]
  have e2 : (x.toList == y.toList) = (a == b) := by rw [← hx, ← hy, bz_toList, bz_toList]
  rw [hx, hy]
  clear hx hy
  cases h1 : a.isEmpty
  · rw [h1] at e1
    cases h2 : (a == b)
    · rw [h2] at e2
      have HS := Lib.hid (show isW a b = false by unfold isW; rw [h1, h2]; rfl)
      clear h1 h2
      go_enter Tryd.func13, Tryd.ntmps13
      go_wp2_with fail
      go_ret
      exact ⟨by rw [HS.out]; rfl, rfl⟩
    · rw [h2] at e2
      have HS := Lib.hid (show isW a b = true by unfold isW; rw [h1, h2]; rfl)
      clear h1 h2
      go_enter Tryd.func13, Tryd.ntmps13
      go_wp2_with fail
      go_ret
      exact ⟨by rw [HS.out]; rfl, rfl⟩
  · rw [h1] at e1
    have HS := Lib.hid (show isW a b = false by unfold isW; rw [h1]; rfl)
    clear h1 e2
    go_enter Tryd.func13, Tryd.ntmps13
    go_wp2_with fail
    go_ret
    exact ⟨by rw [HS.out]; rfl, rfl⟩
set_option maxRecDepth 100000 in
theorem kind_any (l : List UInt8) (w : World) : Calls Tryd.prog 32 #[.string (bz l)] w (U8 (kdL l) w) := by
  have k0 := (prs_rng (bz l)).1
  have k1 := Int.le_trans (prs_rng (bz l)).2 (show (14 : Int) ≤ 255 by decide)
  obtain ⟨z, hz⟩ : ∃ z, prsZ (bz l) = z := ⟨_, rfl⟩
  rw [hz] at k0 k1
  have HS := Lib.hid (show kdL l = kndZ z by unfold kdL; rw [hz])
  have HZ := Lib.hid hz
  clear hz
  go_enter Tryd.func32, Tryd.ntmps32
  go_wp2_with (first
    | (go_at_call 43; refine (prs_any _ _).mono ?_; rintro e w1 ⟨rfl, rfl⟩; rw [HZ.out])
    | (go_at_call 44; refine (knd_any z _ k0 k1).mono ?_; rintro e w1 ⟨rfl, rfl⟩))
  go_ret
  exact ⟨by rw [HS.out]; rfl, rfl⟩
end Go.Proofs.YtnogmogmlilpiaaDoor
