/-
  The walk of RulesHave.
-/
import Derived.Test.YtkeoadcckbcccaaDoorRuProm
import Derived.WalkKit
import Derived.OpenShut
namespace Go.Proofs.YtkeoadcckbcccaaDoor.rulesHave
open Go.RowKit
set_option linter.unusedVariables false
set_option linter.unusedSimpArgs false
set_option maxHeartbeats 2000000 in
theorem have_none (v c : Nat) (w : World) (hv : v ≤ 255) (hT : TabVar w) (h : prL v = []) :
    Calls Tryd.prog 4 #[.int .u8 (v : Int), .int .u8 (c : Int)] w fun e w' => e = .returned (.bool true) ∧ Below w.heap.size w w' := by
  have HT := Lib.hid hT
  clear hT
  go_enter Tryd.func4, Tryd.ntmps4
  go_wp2_with fail
  refine (prom_any v _ hv HT.out).mono ?_; rintro e w1 ⟨u1, rfl, hl1, hb1⟩
  rw [h] at hl1
  obtain ⟨p1, c1, rfl⟩ := listedK_none hl1
  have HB := Lib.hid hb1
  clear hl1 hb1
  go_wp2_with fail
  refine (rprom_any v _).mono ?_; rintro e w1 ⟨u1, rfl, hl1, hb1⟩
  rw [h] at hl1
  obtain ⟨p2, c2, rfl⟩ := listedK_none hl1
  have HB := Lib.hid (below_on HB.out hb1)
  clear hl1 hb1
  go_wp2_with fail
  go_loopw [7] (fun i wr => i = .int .i64 0 ∧ Below w.heap.size w wr) (fun _ _ => 0)
  case atStart => exact ⟨rfl, HB.out⟩
  case round =>
    clear HB
    obtain ⟨rfl, hb⟩ := hrel
    have HB := Lib.hid hb
    clear hb
    go_wp2_with fail
    refine (prom_any v _ hv (HT.out.on HB.out)).mono ?_; rintro e w1 ⟨u1, rfl, hl1, hb1⟩
    rw [h] at hl1
    obtain ⟨p3, c3, rfl⟩ := listedK_none hl1
    have HB := Lib.hid (below_on HB.out hb1)
    clear hl1 hb1
    go_wp2_with fail
    refine (royal_any v c _ hv (HT.out.on HB.out)).mono ?_; rintro e wn ⟨rfl, hb⟩; have HB := Lib.hid (below_on HB.out hb); clear hb
    go_wp2_with fail
    refine (rroyal_any v c _).mono ?_; rintro e wn ⟨rfl, rfl⟩
    go_wp2_with fail
    refine (cas_any v _ hv (HT.out.on HB.out)).mono ?_; rintro e wn ⟨rfl, hb⟩; have HB := Lib.hid (below_on HB.out hb); clear hb
    go_wp2_with fail
    refine (rcas_any v _).mono ?_; rintro e wn ⟨rfl, rfl⟩
    go_wp2_with fail
    refine (poc_any v _ hv (HT.out.on HB.out)).mono ?_; rintro e wn ⟨rfl, hb⟩; have HB := Lib.hid (below_on HB.out hb); clear hb
    go_wp2_with fail
    refine (rpoc_any v _).mono ?_; rintro e wn ⟨rfl, rfl⟩
    go_wp2_with fail
    refine (paw_any v _ hv (HT.out.on HB.out)).mono ?_; rintro e wn ⟨rfl, hb⟩; have HB := Lib.hid (below_on HB.out hb); clear hb
    go_wp2_with fail
    refine (rpaw_any v _).mono ?_; rintro e wn ⟨rfl, rfl⟩
    go_wp2_with fail
    go_ret
    exact ⟨rfl, HB.out⟩
set_option maxHeartbeats 2000000 in
theorem have_some (v c : Nat) (L : List Nat) (w : World) (hv : v ≤ 255) (hT : TabVar w) (h : prL v = L) (hpos : 0 < L.length) (hm : L.length ≤ 5) (h0 : (((L[0] : Nat) : Int) == 99) = false) :
    Calls Tryd.prog 4 #[.int .u8 (v : Int), .int .u8 (c : Int)] w fun e w' => e = .returned (.bool true) ∧ Below w.heap.size w w' := by
  have HT := Lib.hid hT
  clear hT
  go_enter Tryd.func4, Tryd.ntmps4
  go_wp2_with fail
  refine (prom_any v _ hv HT.out).mono ?_; rintro e w1 ⟨u1, rfl, hl1, hb1⟩
  rw [h] at hl1
  obtain ⟨g1, c1, cur1, L1⟩ := listedK_open hl1 hpos
  obtain rfl := L1.val
  have HL1 := Lib.hid L1
  have HB := Lib.hid hb1
  clear hl1 hb1 L1
  go_wp2_with fail
  refine (rprom_any v _).mono ?_; rintro e w2 ⟨u1, rfl, hl1, hb1⟩
  rw [h] at hl1
  obtain ⟨g2, c2, cur2, L2⟩ := listedK_open hl1 hpos
  obtain rfl := L2.val
  have HD := Lib.hid (show g2 ≠ g1 by have := L2.base; have := HL1.out.blk.lt; omega)
  have HL1 := Lib.hid (HL1.out.later hb1)
  have HL2 := Lib.hid L2
  have HB := Lib.hid (below_on HB.out hb1)
  have HG := Lib.hid HL1.out.base
  clear hl1 hb1 L2
  go_wp2_with fail
  go_loopw [7] (fun i wr => ∃ k : Nat, k ≤ L.length ∧ i = .int .i64 (k : Int) ∧ (∃ cur, Blk wr g1 5 cur ∧ cur.size = c1 ∧ ∀ j (h : j < L.length), k ≤ j → cur[j]? = some (.int .u8 (L[j] : Nat))) ∧ Lies .u8 5 w1.heap.size L (.slice (some ⟨g2, 0, none⟩) L.length c2) g2 c2 cur2 wr ∧ Below w.heap.size w wr) (fun i _ => L.length - (intOf i).toNat)
  case atStart => exact ⟨0, by omega, rfl, ⟨cur1, HL1.out.blk, HL1.out.size, fun j h _ => HL1.out.at_ j h⟩, HL2.out, HB.out⟩
  case round =>
    have HR := Lib.hid HL1.out.room
    clear HB HL2 HL1
    obtain ⟨k, hk, rfl, ⟨cur, hbk, hsz, hat⟩, hl2, hb⟩ := hrel
    have HB := Lib.hid hb
    have HK := Lib.hid hbk
    have HS := Lib.hid hsz
    have HA := Lib.hid hat
    have HL2 := Lib.hid hl2
    clear hb hbk hsz hat hl2
    by_cases hlt : k < L.length
    · obtain ⟨x, Hx⟩ : ∃ x : Int, Hid (((L[k] : Nat) : Int) = x) := ⟨_, Lib.hid rfl⟩
      have hc1 : wr.cell? ⟨g1, k, none⟩ = some (.int .u8 x) := by rw [HK.out.cell, HA.out k hlt (Nat.le_refl _), Hx.out]
      have hc2 : wr.cell? ⟨g2, k, none⟩ = some (.int .u8 x) := by rw [HL2.out.cell k hlt, Hx.out]
      have HI := Lib.hid (show k < cur.size by rw [HS.out]; have := HR.out; omega)
      go_wp2_with fail
      go_quiet (fail)
      have HK := Lib.hid (show Blk (wr.drewN nq) g1 5 cur from HK.out)
      have HL2 := Lib.hid (HL2.out.later (drewN_on wr nq))
      have HB := Lib.hid (below_on HB.out (drewN_on wr nq))
      go_wp2_with (refine blk_cell rfl 5 _ _ rfl g1 k rfl .u8 99 rfl 5 cur HK.out HI.out size5 ?_; intro w3 U R; clear hc1 hc2; have HL2 := Lib.hid (HL2.out.apart U HD.out); have HK := Lib.hid R; have HB := Lib.hid (HB.out.trans (U.below HG.out)); clear U R)
      go_roundw
      case rel =>
        refine ⟨k + 1, by omega, by go_num, ⟨_, HK.out, by simp [HS.out], fun j h hj => ?_⟩, HL2.out, HB.out⟩
        rw [Array.getElem?_setIfInBounds, if_neg (by omega)]
        exact HA.out j h (by omega)
      case measure => simp [intOf]; omega
    · obtain rfl : k = L.length := by omega
      clear HK HS HA
      go_wp2_with fail
      refine (prom_any v _ hv (HT.out.on HB.out)).mono ?_; rintro e w3 ⟨u1, rfl, hl1, hb1⟩
      rw [h] at hl1
      obtain ⟨g3, c3, cur3, L3⟩ := listedK_open hl1 hpos
      obtain rfl := L3.val
      have hc3 := L3.cell 0 hpos
      have HB := Lib.hid (below_on HB.out hb1)
      clear hl1 hb1 L3
      go_wp2_with fail
      clear hc3
      refine (royal_any v c _ hv (HT.out.on HB.out)).mono ?_; rintro e wn ⟨rfl, hb⟩; have HB := Lib.hid (below_on HB.out hb); clear hb
      go_wp2_with fail
      refine (rroyal_any v c _).mono ?_; rintro e wn ⟨rfl, rfl⟩
      go_wp2_with fail
      refine (cas_any v _ hv (HT.out.on HB.out)).mono ?_; rintro e wn ⟨rfl, hb⟩; have HB := Lib.hid (below_on HB.out hb); clear hb
      go_wp2_with fail
      refine (rcas_any v _).mono ?_; rintro e wn ⟨rfl, rfl⟩
      go_wp2_with fail
      refine (poc_any v _ hv (HT.out.on HB.out)).mono ?_; rintro e wn ⟨rfl, hb⟩; have HB := Lib.hid (below_on HB.out hb); clear hb
      go_wp2_with fail
      refine (rpoc_any v _).mono ?_; rintro e wn ⟨rfl, rfl⟩
      go_wp2_with fail
      refine (paw_any v _ hv (HT.out.on HB.out)).mono ?_; rintro e wn ⟨rfl, hb⟩; have HB := Lib.hid (below_on HB.out hb); clear hb
      go_wp2_with fail
      refine (rpaw_any v _).mono ?_; rintro e wn ⟨rfl, rfl⟩
      go_wp2_with fail
      go_ret
      exact ⟨rfl, HB.out⟩
theorem walk (a0 a1 : Int) (w0 : (Lit.int .u8 a0).wf = true) (w1 : (Lit.int .u8 a1).wf = true) (w : World) (hT : TabVar w) :
    Calls Tryd.prog 4 #[.int .u8 a0, .int .u8 a1] w fun e w' => e = .returned (.bool true) ∧ Below w.heap.size w w' := by
  obtain ⟨v, hv, rfl⟩ := u8_of w0
  obtain ⟨c, hc, rfl⟩ := u8_of w1
  rcases hi_cases v with h | h | h
  · exact have_none v c w (by omega) hT (by unfold prL; rw [h]; rfl)
  · exact have_some v c (upN 4) w (by omega) hT (by unfold prL; rw [h]) (by decide) (by decide) (by decide)
  · exact have_some v c (upN 5) w (by omega) hT (by unfold prL; rw [h]) (by decide) (by decide) (by decide)
end Go.Proofs.YtkeoadcckbcccaaDoor.rulesHave
