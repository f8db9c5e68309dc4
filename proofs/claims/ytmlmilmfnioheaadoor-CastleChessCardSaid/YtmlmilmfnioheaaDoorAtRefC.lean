/-
  Contracts of the document's own layer 8, third part: Find, King, Check, Checkers.
-/
import Derived.Test.YtmlmilmfnioheaaDoorAtRefB
namespace Go.Proofs.YtmlmilmfnioheaaDoor
open Go.RowKit
set_option linter.unusedVariables false
set_option linter.unusedSimpArgs false

theorem is_of (c x : Int) : (kndZ x == 6 && x / 8 == c) = ofB c 6 x := by
  unfold ofB
  cases h : pcB x
  · rw [kndZ_no h]; rfl
  · rw [colZ_yes h]
    simp only [Bool.true_and, show ((6 : Int) == 0) = false from rfl, Bool.false_or]
    exact Bool.and_comm _ _
theorem first_at {n j : Nat} (hn : n < W64) (hj : n.testBit j = true) (h : ∀ i, i < j → n.testBit i = false) : firstN n = (j : Int) := by
  have h0 : n ≠ 0 := by rintro rfl; rw [Nat.zero_testBit] at hj; cases hj
  obtain ⟨e, _, he, h1, h2⟩ := first_spec h0 hn
  have := h2 j hj
  have : ¬ e < j := fun g => by have := h e g; rw [h1] at this; cases this
  rw [he]; omega
theorem first_none {n : Nat} (hn : n < W64) (h : ∀ i, i < 64 → n.testBit i = false) : firstN n = -1 := by
  have : n = 0 := eq_of_bits hn (by decide) fun i hi => by rw [h i hi, Nat.zero_testBit]
  rw [this]; exact firstN_zero
set_option maxRecDepth 100000 in
set_option maxHeartbeats 1000000 in
theorem rfind_any (p : Nat → Int) (c : Int) (w : World) (hp : BdR p) : Calls Tryd.prog 38 #[.agg (posA p), .int .u8 c, .int .u8 6] w (IntL (kingZ p c) w) := by
  have HP := Lib.hid hp
  clear hp
  go_enter Tryd.func38, Tryd.ntmps38
  go_wp2_with (refine step_box rfl _ rfl p rfl ?_; intro b1 w1 N R; have HB := Lib.hid N.below; have HR1 := Lib.hid R; clear N R)
  go_loopw [7] (fun i wr => ∃ k : Nat, k ≤ 64 ∧ i = .int .i64 (k : Int) ∧ Hid (∀ j, j < k → (ofN p c 6).testBit j = false) ∧ Below w.heap.size w wr ∧ Row wr b1 p) (fun i _ => 64 - (intOf i).toNat)
  case atStart => exact ⟨0, by omega, rfl, Lib.hid (fun j h => by omega), HB.out, HR1.out⟩
  case round =>
    obtain ⟨k, hk, rfl, Hi, hb, hr⟩ := hrel
    have HB := Lib.hid hb
    have HR := Lib.hid hr
    clear hb hr
    by_cases hlt : k < 64
    · have Hlt := Lib.hid hlt
      have gk : decide ((k : Int) < 64) = true := decide_eq_true (by omega)
      obtain ⟨r, HRb⟩ : ∃ r, Hid ((kndZ (p (1 + k)) == 6 && p (1 + k) / 8 == c) = r) := ⟨_, Lib.hid rfl⟩
      have HT := Lib.hid (show (ofN p c 6).testBit k = r by rw [ofN_testBit _ _ _ _ hlt, ← is_of]; exact HRb.out)
      clear hlt
      cases r
      · go_wp2_with (refine step_load (by rfl) _ rfl _ rfl p HR.out ?_)
        refine (ris_any p k c 6 _ HP.out Hlt.out).mono ?_; rintro e wn ⟨rfl, hb9⟩; rw [HRb.out]; have HR := Lib.hid (HR.out.later hb9); have HB := Lib.hid (below_on HB.out hb9); clear hb9
        go_wp2_with fail
        go_roundw
        case rel => exact ⟨k + 1, by have := Hlt.out; omega, by go_num, Lib.hid (fun j h => by
          by_cases e : j = k
          · rw [e]; exact HT.out
          · exact Hi.out j (by omega)), HB.out, HR.out⟩
        case measure => simp [intOf]; have := Hlt.out; omega
      · have HZ := Lib.hid (show kingZ p c = (k : Int) from first_at (ofN_lt _ _ _) HT.out Hi.out)
        go_wp2_with (refine step_load (by rfl) _ rfl _ rfl p HR.out ?_)
        refine (ris_any p k c 6 _ HP.out Hlt.out).mono ?_; rintro e wn ⟨rfl, hb9⟩; rw [HRb.out]; have HB := Lib.hid (below_on HB.out hb9); clear hb9
        go_wp2_with fail
        go_ret
        exact ⟨by rw [HZ.out]; rfl, HB.out⟩
    · obtain rfl : k = 64 := by omega
      have HZ := Lib.hid (show kingZ p c = -1 from first_none (ofN_lt _ _ _) Hi.out)
      go_wp2_with fail
      go_ret
      exact ⟨by rw [HZ.out]; rfl, HB.out⟩

/-- The square of the king that may be in check. -/
def rkZ (p : Nat → Int) (c : Int) : Int := if (ryB (p 0).toNat c.toNat && (decide (0 ≤ kingZ p c) && !shelB p (kingZ p c) c)) = true then kingZ p c else -1
theorem kingZ_sq {p : Nat → Int} {c : Int} (h : 0 ≤ kingZ p c) : ∃ n : Nat, n < 64 ∧ kingZ p c = (n : Int) := by
  unfold kingZ at *
  by_cases h0 : ofN p c 6 = 0
  · rw [h0, firstN_zero] at h; omega
  · obtain ⟨e, he, h1, _⟩ := first_spec h0 (ofN_lt p c 6); exact ⟨e, he, h1⟩
theorem king_bes {a b : Nat} (ha : a < 64) (hb : b < 64) : (kingN (a : Int)).testBit b = besB b a := by
  have g := geoB_all b hb a ha
  simp only [geoB, Bool.and_eq_true, beq_iff_eq] at g
  have t := (turned_all (a : Int) (b : Int)).1
  simp only [hasN_nat _ _ ha, hasN_nat _ _ hb] at t
  rw [t, kingN_nat hb]
  exact g.1.1.1.2
theorem shel_yes {p : Nat → Int} {c : Int} {n i : Nat} (hn : n < 64) (hi : i < 64) (hv : (p 0 == 3) = true) (h1 : ofB (oth c) 6 (p (1 + i)) = true) (h2 : besB i n = true) : shelB p (n : Int) c = true := by
  unfold shelB
  rw [hv, Bool.true_and, bne_iff_ne]
  intro e
  have := congrArg (Nat.testBit · i) e
  simp only [Nat.testBit_and, Nat.zero_testBit, king_bes hn hi, h2, ofN_testBit _ _ _ _ hi, h1] at this
  cases this
theorem shel_no {p : Nat → Int} {c : Int} {n : Nat} (hn : n < 64) (h : ∀ i, i < 64 → (ofB (oth c) 6 (p (1 + i)) && besB i n) = false) : shelB p (n : Int) c = false := by
  unfold shelB
  have : kingN (n : Int) &&& ofN p (oth c) 6 = 0 := by
    apply eq_of_bits (and_lt (ofN_lt _ _ _)) (by decide)
    intro i hi
    rw [Nat.testBit_and, king_bes hn hi, ofN_testBit _ _ _ _ hi, Nat.zero_testBit, Bool.and_comm]
    exact h i hi
  rw [this]; simp
theorem chk_rk (p : Nat → Int) (c : Int) : chkB p c = (decide (0 ≤ rkZ p c) && (byN p (rkZ p c) (oth c) != 0)) := by
  unfold rkZ
  cases hr : ryB (p 0).toNat c.toNat
  · have : chkB p c = false := by unfold chkB; rw [hr]; rfl
    rw [this]; rfl
  · cases hk : decide (0 ≤ kingZ p c)
    · have hs : sq (kingZ p c) = false := sq_false.2 (.inl (by have := of_decide_eq_false hk; omega))
      have : chkB p c = false := by unfold chkB anyB; rw [byN_no p _ hs, hr]; simp
      rw [this]; rfl
    · cases hb : shelB p (kingZ p c) c
      · have : chkB p c = (byN p (kingZ p c) (oth c) != 0) := by unfold chkB anyB; rw [hr, hb]; rfl
        rw [this]
        simp only [Bool.true_and, Bool.not_false, if_true, hk]
      · have : chkB p c = false := by unfold chkB; rw [hr, hb]; rfl
        rw [this]; rfl
theorem chks_rk (p : Nat → Int) : chksN p = if 0 ≤ rkZ p (p 78) then byN p (rkZ p (p 78)) (oth (p 78)) else 0 := by
  unfold chksN
  rw [chk_rk]
  by_cases h : 0 ≤ rkZ p (p 78)
  · rw [if_pos h, decide_eq_true h, Bool.true_and]
    have hk : rkZ p (p 78) = kingZ p (p 78) := by
      unfold rkZ at h ⊢
      split
      · rfl
      · rename_i g; rw [if_neg g] at h; omega
    rw [hk]
    by_cases e : byN p (kingZ p (p 78)) (oth (p 78)) = 0
    · rw [e]; rfl
    · rw [if_pos (by rw [bne_iff_ne]; exact e)]
  · rw [if_neg h, decide_eq_false h]; rfl
theorem rk_col (p : Nat → Int) {c : Int} (h : 2 ≤ c) : rkZ p c = -1 := by
  unfold rkZ
  rw [ry_no _ _ (by omega)]; rfl
end Go.Proofs.YtmlmilmfnioheaaDoor
