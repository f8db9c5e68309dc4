/-
  Contracts of read and of Parse (layer 10).
-/
import Derived.Test.YtjbfjohgfbipgaaGreatDoorRdRead
import Derived.Test.YtjbfjohgfbipgaaGreatDoorRdBaseA
namespace Go.Proofs.YtjbfjohgfbipgaaGreatDoor
open Go.RowKit
set_option linter.unusedVariables false
set_option linter.unusedSimpArgs false

theorem Kb.row {b k : Nat} {p : Nat → Int} {w w' : World} (h : Kb b w w') (hc : Row w k p) (hk : k ≠ b) : Row w' k p := (h.same k hc.lt hk).trans hc
theorem Upd.below2 {b c B : Nat} {w wm w' : World} (h : Upd b w wm) (k : Upd c wm w') (hb : B ≤ b) (hc : B ≤ c) : Below B w w' := (h.below hb).trans (k.below hc)
theorem rdUp_inv {v : Int} {p : Nat → Int} {s : List UInt8} (h : RdI 0 v p s) : ∀ k, k ≤ 7 → ∀ st, rdUp k p s = some st → RdI k v st.1 st.2
  | 0, _, st, hs => by cases hs; exact h
  | k + 1, hk, st, hs => by
    cases hr : rdUp k p s with
    | none => rw [rdUp, hr] at hs; cases hs
    | some sq => rw [rdUp_step hr] at hs; exact rdStep_ok (by omega) (rdUp_inv h k (by omega) sq hr) hs
theorem rdUp_ok {v : Int} {p q : Nat → Int} {s r : List UInt8} (h : RdI 0 v p s) (hs : rdUp 7 p s = some (q, r)) : RdI 7 v q r := rdUp_inv h 7 (Nat.le_refl _) _ hs
set_option maxRecDepth 100000 in
set_option maxHeartbeats 4000000 in
theorem read_any (v : Int) (t : List UInt8) (w : World) (hv : 0 ≤ v ∧ v ≤ 255) (ht : t.length ≤ 10000) (hM : TabMx w) (hT : TabErr w) (hC : TabCorn w) (hV : TabVar w) (hP : TabPow w) : Calls Tryz.prog 26 #[.int .u8 v, .string (bz t)] w (ReadP 5 (rdAll v t) w) := by
  have hI := nakP_ok v hv t ht
  have HM := Lib.hid hM
  have HT := Lib.hid hT
  have HC := Lib.hid hC
  have HV := Lib.hid hV
  have HP := Lib.hid hP
  obtain ⟨o, ho⟩ : ∃ o, rdAll v t = o := ⟨_, rfl⟩
  rw [ho]
  unfold rdAll at ho
  obtain ⟨n0, hn⟩ : ∃ n0, nakP v = n0 := ⟨_, rfl⟩
  have HNk := Lib.hid hn
  rw [hn] at hI ho
  have HI := Lib.hid hI
  clear hv ht hM hT hC hV hP hI hn
  cases hu : rdUp 7 n0 t with
  | none =>
    have HU := Lib.hid hu
    have HE := Lib.hid (show o = none by rw [← ho, hu])
    clear ho hu
    go_enter_defers Tryz.func26, Tryz.ntmps26
    go_wp2_with (first
      | (refine step_alloc rfl rfl ?_; intro b4 w1 N R; have HL4 := Lib.hid (show w.heap.size ≤ b4 ∧ b4 < w1.heap.size from ⟨Nat.le_of_eq N.at_.symm, R.lt⟩); have HR4 := Lib.hid R; have HB := Lib.hid N.below; clear N R)
      | (refine blk_alloc1 rfl 43 rfl .i64 0 (by kernel_rfl) ?_; intro b5 w2 N R; have HL5 := Lib.hid (show w.heap.size ≤ b4 ∧ b4 < b5 ∧ b5 < w2.heap.size from ⟨HL4.out.1, by rw [N.at_]; exact HL4.out.2, R.lt⟩); have HR4 := Lib.hid (HR4.out.later N.below); have HR5 := Lib.hid R; have HB := Lib.hid (HB.out.trans (N.below.mono HB.out.size)); clear N R)
      | (go_at_call 52; refine (nak_any v _).mono ?_; rintro e w3 ⟨rfl, hb⟩; rw [HNk.out]; have HL5' := Lib.hid (show w.heap.size ≤ b4 ∧ b4 < b5 ∧ b5 < w3.heap.size from ⟨HL5.out.1, HL5.out.2.1, Nat.lt_of_lt_of_le HL5.out.2.2 hb.size⟩); have HR4 := Lib.hid (HR4.out.later hb); have HR5 := Lib.hid (HR5.out.later hb); have HB := Lib.hid (HB.out.trans (hb.mono HB.out.size)); clear hb)
      | (refine step_reader rfl _ _ rfl n0 t rfl rfl ?_)
      | (refine blk_alloc rfl 71 rfl (rdA zeroP []) infoRd ?_; intro b6 w4 N R; have HL6 := Lib.hid (show w.heap.size ≤ b4 ∧ b4 < b5 ∧ b5 < b6 from ⟨HL5'.out.1, HL5'.out.2.1, by rw [N.at_]; exact HL5'.out.2.2⟩); have HR4 := Lib.hid (HR4.out.later N.below); have HR5 := Lib.hid (HR5.out.later N.below); have HRz := Lib.hid R; have HB := Lib.hid (HB.out.trans (N.below.mono HB.out.size)); clear N R)
      | (refine blk_store rfl 71 _ _ rfl b6 rfl (rdA zeroP []) (rdA n0 t) rfl HRz.out (by rw [rdA_size, rdA_size]) (rdA_one _ _) (by rw [rdA_size]; exact sizeRd) ?_; intro w5 U R; have HRd := Lib.hid (show RowR w5 b6 n0 t from R); have HR4 := Lib.hid (HR4.out.apart U (by have := HL6.out; omega)); have HR5 := Lib.hid (HR5.out.apart U (by have := HL6.out; omega)); have HB := Lib.hid (HB.out.trans (U.below (by have := HL6.out; omega))); clear U R)
      | (go_at_call 53; have N := New.alloc w5 (.cells (#[.func (.func 54) #[.pointer (some ⟨b6, 0, none⟩)] #[], .func (.func 55) #[.pointer (some ⟨b6, 0, none⟩)] #[], .func (.func 56) #[.pointer (some ⟨b6, 0, none⟩)] #[], .func (.func 57) #[.pointer (some ⟨b6, 0, none⟩)] #[], .func (.func 58) #[.pointer (some ⟨b6, 0, none⟩)] #[], .func (.func 59) #[.pointer (some ⟨b6, 0, none⟩)] #[], .func (.func 60) #[.pointer (some ⟨b6, 0, none⟩)] #[]]) 1); have R : Blk _ w5.heap.size 1 (#[.func (.func 54) #[.pointer (some ⟨b6, 0, none⟩)] #[], .func (.func 55) #[.pointer (some ⟨b6, 0, none⟩)] #[], .func (.func 56) #[.pointer (some ⟨b6, 0, none⟩)] #[], .func (.func 57) #[.pointer (some ⟨b6, 0, none⟩)] #[], .func (.func 58) #[.pointer (some ⟨b6, 0, none⟩)] #[], .func (.func 59) #[.pointer (some ⟨b6, 0, none⟩)] #[], .func (.func 60) #[.pointer (some ⟨b6, 0, none⟩)] #[]]) := heap_alloc_new w5 (.cells (#[.func (.func 54) #[.pointer (some ⟨b6, 0, none⟩)] #[], .func (.func 55) #[.pointer (some ⟨b6, 0, none⟩)] #[], .func (.func 56) #[.pointer (some ⟨b6, 0, none⟩)] #[], .func (.func 57) #[.pointer (some ⟨b6, 0, none⟩)] #[], .func (.func 58) #[.pointer (some ⟨b6, 0, none⟩)] #[], .func (.func 59) #[.pointer (some ⟨b6, 0, none⟩)] #[], .func (.func 60) #[.pointer (some ⟨b6, 0, none⟩)] #[]]) 1); generalize w5.alloc (.cells (#[.func (.func 54) #[.pointer (some ⟨b6, 0, none⟩)] #[], .func (.func 55) #[.pointer (some ⟨b6, 0, none⟩)] #[], .func (.func 56) #[.pointer (some ⟨b6, 0, none⟩)] #[], .func (.func 57) #[.pointer (some ⟨b6, 0, none⟩)] #[], .func (.func 58) #[.pointer (some ⟨b6, 0, none⟩)] #[], .func (.func 59) #[.pointer (some ⟨b6, 0, none⟩)] #[], .func (.func 60) #[.pointer (some ⟨b6, 0, none⟩)] #[]]) 1) = w5' at N R ⊢; generalize w5.heap.size = g at N R ⊢; have HFu := Lib.hid (funsAt_new R); have HN4 := Lib.hid (show g ≠ b6 by rw [N.at_]; exact Nat.ne_of_gt HRd.out.lt); have HRd := Lib.hid (HRd.out.later N.below); have HR4 := Lib.hid (HR4.out.later N.below); have HR5 := Lib.hid (HR5.out.later N.below); have HB := Lib.hid (HB.out.trans (N.below.mono HB.out.size)); have HN2 := Lib.hid (show 5 ≠ b6 by have := HM.out.lt; have := HL6.out; omega); have HN3 := Lib.hid (show 0 ≠ b6 by have := HC.out.lt; have := HL6.out; omega); have HN1 := Lib.hid (show 7 ≠ b6 ∧ 8 ≠ b6 by have := HT.out.1.lt; have := HT.out.2.lt; have := HL6.out; exact ⟨by omega, by omega⟩); clear N R; refine (in_order b6 g 7 v n0 t _ HRd.out HI.out (HM.out.on HB.out) (HT.out.on HB.out) (HC.out.on HB.out) HN1.out HN2.out HN3.out HN4.out HFu.out).mono ?_; intro e w6 hrd; rw [HU.out] at hrd; obtain ⟨⟨u, pv, rfl⟩, hk⟩ := hrd; have HR4 := Lib.hid (hk.row HR4.out (by have := HL6.out; omega)); have HR5 := Lib.hid (hk.blk HR5.out (by have := HL6.out; omega)); have HB := Lib.hid (HB.out.trans (hk.below (by have := HL6.out; omega) HB.out.size)); clear hk))
    change Leaves _ _ _ _ _ _ _
    refine leaves_cons (f := 51) (args := #[.pointer (some ⟨b4, 0, none⟩), .pointer (some ⟨b5, 0, none⟩)]) (by simp) (by simp [go_sem]) ?_
    refine (catch_pan b4 b5 zeroP 0 _ _ _ HR4.out HR5.out (by have := HL6.out; omega)).mono ?_
    rintro e u' w9 ⟨rfl, rfl, h4, h5, wm, u4, u5⟩
    refine ⟨_, results_cc rfl _ _ _ _ _ _ rfl rfl h4 h5, ?_, HB.out.trans (u4.below2 u5 (by have := HL6.out; omega) (by have := HL6.out; omega))⟩
    rw [HE.out]; rfl
  | some st =>
    obtain ⟨q, r⟩ := st
    have HU := Lib.hid hu
    have ho2 : o = bif fenL q == t then some q else none := by rw [← ho, hu]
    have HF := Lib.hid (rdUp_ok HI.out hu).1
    cases hq : (fenL q == t)
    · have HE := Lib.hid (show o = none by rw [ho2, hq]; rfl)
      have g1 : ((bz (fenL q)).toList == (bz t).toList) = false := by rw [bz_toList, bz_toList]; exact hq
      clear ho ho2 hu hq
      go_enter_defers Tryz.func26, Tryz.ntmps26
      go_wp2_with (first
        | (refine step_alloc rfl rfl ?_; intro b4 w1 N R; have HL4 := Lib.hid (show w.heap.size ≤ b4 ∧ b4 < w1.heap.size from ⟨Nat.le_of_eq N.at_.symm, R.lt⟩); have HR4 := Lib.hid R; have HB := Lib.hid N.below; clear N R)
        | (refine blk_alloc1 rfl 43 rfl .i64 0 (by kernel_rfl) ?_; intro b5 w2 N R; have HL5 := Lib.hid (show w.heap.size ≤ b4 ∧ b4 < b5 ∧ b5 < w2.heap.size from ⟨HL4.out.1, by rw [N.at_]; exact HL4.out.2, R.lt⟩); have HR4 := Lib.hid (HR4.out.later N.below); have HR5 := Lib.hid R; have HB := Lib.hid (HB.out.trans (N.below.mono HB.out.size)); clear N R)
        | (go_at_call 52; refine (nak_any v _).mono ?_; rintro e w3 ⟨rfl, hb⟩; rw [HNk.out]; have HL5' := Lib.hid (show w.heap.size ≤ b4 ∧ b4 < b5 ∧ b5 < w3.heap.size from ⟨HL5.out.1, HL5.out.2.1, Nat.lt_of_lt_of_le HL5.out.2.2 hb.size⟩); have HR4 := Lib.hid (HR4.out.later hb); have HR5 := Lib.hid (HR5.out.later hb); have HB := Lib.hid (HB.out.trans (hb.mono HB.out.size)); clear hb)
        | (refine step_reader rfl _ _ rfl n0 t rfl rfl ?_)
        | (refine blk_alloc rfl 71 rfl (rdA zeroP []) infoRd ?_; intro b6 w4 N R; have HL6 := Lib.hid (show w.heap.size ≤ b4 ∧ b4 < b5 ∧ b5 < b6 from ⟨HL5'.out.1, HL5'.out.2.1, by rw [N.at_]; exact HL5'.out.2.2⟩); have HR4 := Lib.hid (HR4.out.later N.below); have HR5 := Lib.hid (HR5.out.later N.below); have HRz := Lib.hid R; have HB := Lib.hid (HB.out.trans (N.below.mono HB.out.size)); clear N R)
        | (refine blk_store rfl 71 _ _ rfl b6 rfl (rdA zeroP []) (rdA n0 t) rfl HRz.out (by rw [rdA_size, rdA_size]) (rdA_one _ _) (by rw [rdA_size]; exact sizeRd) ?_; intro w5 U R; have HRd := Lib.hid (show RowR w5 b6 n0 t from R); have HR4 := Lib.hid (HR4.out.apart U (by have := HL6.out; omega)); have HR5 := Lib.hid (HR5.out.apart U (by have := HL6.out; omega)); have HB := Lib.hid (HB.out.trans (U.below (by have := HL6.out; omega))); clear U R)
        | (go_at_call 53; have N := New.alloc w5 (.cells (#[.func (.func 54) #[.pointer (some ⟨b6, 0, none⟩)] #[], .func (.func 55) #[.pointer (some ⟨b6, 0, none⟩)] #[], .func (.func 56) #[.pointer (some ⟨b6, 0, none⟩)] #[], .func (.func 57) #[.pointer (some ⟨b6, 0, none⟩)] #[], .func (.func 58) #[.pointer (some ⟨b6, 0, none⟩)] #[], .func (.func 59) #[.pointer (some ⟨b6, 0, none⟩)] #[], .func (.func 60) #[.pointer (some ⟨b6, 0, none⟩)] #[]]) 1); have R : Blk _ w5.heap.size 1 (#[.func (.func 54) #[.pointer (some ⟨b6, 0, none⟩)] #[], .func (.func 55) #[.pointer (some ⟨b6, 0, none⟩)] #[], .func (.func 56) #[.pointer (some ⟨b6, 0, none⟩)] #[], .func (.func 57) #[.pointer (some ⟨b6, 0, none⟩)] #[], .func (.func 58) #[.pointer (some ⟨b6, 0, none⟩)] #[], .func (.func 59) #[.pointer (some ⟨b6, 0, none⟩)] #[], .func (.func 60) #[.pointer (some ⟨b6, 0, none⟩)] #[]]) := heap_alloc_new w5 (.cells (#[.func (.func 54) #[.pointer (some ⟨b6, 0, none⟩)] #[], .func (.func 55) #[.pointer (some ⟨b6, 0, none⟩)] #[], .func (.func 56) #[.pointer (some ⟨b6, 0, none⟩)] #[], .func (.func 57) #[.pointer (some ⟨b6, 0, none⟩)] #[], .func (.func 58) #[.pointer (some ⟨b6, 0, none⟩)] #[], .func (.func 59) #[.pointer (some ⟨b6, 0, none⟩)] #[], .func (.func 60) #[.pointer (some ⟨b6, 0, none⟩)] #[]]) 1); generalize w5.alloc (.cells (#[.func (.func 54) #[.pointer (some ⟨b6, 0, none⟩)] #[], .func (.func 55) #[.pointer (some ⟨b6, 0, none⟩)] #[], .func (.func 56) #[.pointer (some ⟨b6, 0, none⟩)] #[], .func (.func 57) #[.pointer (some ⟨b6, 0, none⟩)] #[], .func (.func 58) #[.pointer (some ⟨b6, 0, none⟩)] #[], .func (.func 59) #[.pointer (some ⟨b6, 0, none⟩)] #[], .func (.func 60) #[.pointer (some ⟨b6, 0, none⟩)] #[]]) 1) = w5' at N R ⊢; generalize w5.heap.size = g at N R ⊢; have HFu := Lib.hid (funsAt_new R); have HN4 := Lib.hid (show g ≠ b6 by rw [N.at_]; exact Nat.ne_of_gt HRd.out.lt); have HRd := Lib.hid (HRd.out.later N.below); have HR4 := Lib.hid (HR4.out.later N.below); have HR5 := Lib.hid (HR5.out.later N.below); have HB := Lib.hid (HB.out.trans (N.below.mono HB.out.size)); have HN2 := Lib.hid (show 5 ≠ b6 by have := HM.out.lt; have := HL6.out; omega); have HN3 := Lib.hid (show 0 ≠ b6 by have := HC.out.lt; have := HL6.out; omega); have HN1 := Lib.hid (show 7 ≠ b6 ∧ 8 ≠ b6 by have := HT.out.1.lt; have := HT.out.2.lt; have := HL6.out; exact ⟨by omega, by omega⟩); clear N R; refine (in_order b6 g 7 v n0 t _ HRd.out HI.out (HM.out.on HB.out) (HT.out.on HB.out) (HC.out.on HB.out) HN1.out HN2.out HN3.out HN4.out HFu.out).mono ?_; intro e w6 hrd; rw [HU.out] at hrd; obtain ⟨rfl, hrow, hk⟩ := hrd; have HRd := Lib.hid hrow; have HR4 := Lib.hid (hk.row HR4.out (by have := HL6.out; omega)); have HR5 := Lib.hid (hk.blk HR5.out (by have := HL6.out; omega)); have HB := Lib.hid (HB.out.trans (hk.below (by have := HL6.out; omega) HB.out.size)); clear hk hrow)
        | (refine rd_load rfl _ rfl b6 rfl q r ?_ ?_; exact HRd.out)
        | (go_at_call 6; refine (print_any q _ HF.out (HV.out.on HB.out) (HC.out.on HB.out) (HP.out.on HB.out)).mono ?_; rintro e w7 ⟨rfl, hb⟩; have HRd := Lib.hid (HRd.out.later hb); have HR4 := Lib.hid (HR4.out.later hb); have HR5 := Lib.hid (HR5.out.later hb); have HB := Lib.hid (HB.out.trans (hb.mono HB.out.size)); clear hb)
        | (go_at_call 61; refine (demand_no _).mono ?_; rintro e w8 ⟨⟨u, pv, rfl⟩, rfl⟩))
      change Leaves _ _ _ _ _ _ _
      refine leaves_cons (f := 51) (args := #[.pointer (some ⟨b4, 0, none⟩), .pointer (some ⟨b5, 0, none⟩)]) (by simp) (by simp [go_sem]) ?_
      refine (catch_pan b4 b5 zeroP 0 _ _ _ HR4.out HR5.out (by have := HL6.out; omega)).mono ?_
      rintro e u' w9 ⟨rfl, rfl, h4, h5, wm, u4, u5⟩
      refine ⟨_, results_cc rfl _ _ _ _ _ _ rfl rfl h4 h5, ?_, HB.out.trans (u4.below2 u5 (by have := HL6.out; omega) (by have := HL6.out; omega))⟩
      rw [HE.out]; rfl
    · have HE := Lib.hid (show o = some q by rw [ho2, hq]; rfl)
      have g1 : ((bz (fenL q)).toList == (bz t).toList) = true := by rw [bz_toList, bz_toList]; exact hq
      clear ho ho2 hu hq
      go_enter_defers Tryz.func26, Tryz.ntmps26
      go_wp2_with (first
        | (refine step_alloc rfl rfl ?_; intro b4 w1 N R; have HL4 := Lib.hid (show w.heap.size ≤ b4 ∧ b4 < w1.heap.size from ⟨Nat.le_of_eq N.at_.symm, R.lt⟩); have HR4 := Lib.hid R; have HB := Lib.hid N.below; clear N R)
        | (refine blk_alloc1 rfl 43 rfl .i64 0 (by kernel_rfl) ?_; intro b5 w2 N R; have HL5 := Lib.hid (show w.heap.size ≤ b4 ∧ b4 < b5 ∧ b5 < w2.heap.size from ⟨HL4.out.1, by rw [N.at_]; exact HL4.out.2, R.lt⟩); have HR4 := Lib.hid (HR4.out.later N.below); have HR5 := Lib.hid R; have HB := Lib.hid (HB.out.trans (N.below.mono HB.out.size)); clear N R)
        | (go_at_call 52; refine (nak_any v _).mono ?_; rintro e w3 ⟨rfl, hb⟩; rw [HNk.out]; have HL5' := Lib.hid (show w.heap.size ≤ b4 ∧ b4 < b5 ∧ b5 < w3.heap.size from ⟨HL5.out.1, HL5.out.2.1, Nat.lt_of_lt_of_le HL5.out.2.2 hb.size⟩); have HR4 := Lib.hid (HR4.out.later hb); have HR5 := Lib.hid (HR5.out.later hb); have HB := Lib.hid (HB.out.trans (hb.mono HB.out.size)); clear hb)
        | (refine step_reader rfl _ _ rfl n0 t rfl rfl ?_)
        | (refine blk_alloc rfl 71 rfl (rdA zeroP []) infoRd ?_; intro b6 w4 N R; have HL6 := Lib.hid (show w.heap.size ≤ b4 ∧ b4 < b5 ∧ b5 < b6 from ⟨HL5'.out.1, HL5'.out.2.1, by rw [N.at_]; exact HL5'.out.2.2⟩); have HR4 := Lib.hid (HR4.out.later N.below); have HR5 := Lib.hid (HR5.out.later N.below); have HRz := Lib.hid R; have HB := Lib.hid (HB.out.trans (N.below.mono HB.out.size)); clear N R)
        | (refine blk_store rfl 71 _ _ rfl b6 rfl (rdA zeroP []) (rdA n0 t) rfl HRz.out (by rw [rdA_size, rdA_size]) (rdA_one _ _) (by rw [rdA_size]; exact sizeRd) ?_; intro w5 U R; have HRd := Lib.hid (show RowR w5 b6 n0 t from R); have HR4 := Lib.hid (HR4.out.apart U (by have := HL6.out; omega)); have HR5 := Lib.hid (HR5.out.apart U (by have := HL6.out; omega)); have HB := Lib.hid (HB.out.trans (U.below (by have := HL6.out; omega))); clear U R)
        | (go_at_call 53; have N := New.alloc w5 (.cells (#[.func (.func 54) #[.pointer (some ⟨b6, 0, none⟩)] #[], .func (.func 55) #[.pointer (some ⟨b6, 0, none⟩)] #[], .func (.func 56) #[.pointer (some ⟨b6, 0, none⟩)] #[], .func (.func 57) #[.pointer (some ⟨b6, 0, none⟩)] #[], .func (.func 58) #[.pointer (some ⟨b6, 0, none⟩)] #[], .func (.func 59) #[.pointer (some ⟨b6, 0, none⟩)] #[], .func (.func 60) #[.pointer (some ⟨b6, 0, none⟩)] #[]]) 1); have R : Blk _ w5.heap.size 1 (#[.func (.func 54) #[.pointer (some ⟨b6, 0, none⟩)] #[], .func (.func 55) #[.pointer (some ⟨b6, 0, none⟩)] #[], .func (.func 56) #[.pointer (some ⟨b6, 0, none⟩)] #[], .func (.func 57) #[.pointer (some ⟨b6, 0, none⟩)] #[], .func (.func 58) #[.pointer (some ⟨b6, 0, none⟩)] #[], .func (.func 59) #[.pointer (some ⟨b6, 0, none⟩)] #[], .func (.func 60) #[.pointer (some ⟨b6, 0, none⟩)] #[]]) := heap_alloc_new w5 (.cells (#[.func (.func 54) #[.pointer (some ⟨b6, 0, none⟩)] #[], .func (.func 55) #[.pointer (some ⟨b6, 0, none⟩)] #[], .func (.func 56) #[.pointer (some ⟨b6, 0, none⟩)] #[], .func (.func 57) #[.pointer (some ⟨b6, 0, none⟩)] #[], .func (.func 58) #[.pointer (some ⟨b6, 0, none⟩)] #[], .func (.func 59) #[.pointer (some ⟨b6, 0, none⟩)] #[], .func (.func 60) #[.pointer (some ⟨b6, 0, none⟩)] #[]]) 1); generalize w5.alloc (.cells (#[.func (.func 54) #[.pointer (some ⟨b6, 0, none⟩)] #[], .func (.func 55) #[.pointer (some ⟨b6, 0, none⟩)] #[], .func (.func 56) #[.pointer (some ⟨b6, 0, none⟩)] #[], .func (.func 57) #[.pointer (some ⟨b6, 0, none⟩)] #[], .func (.func 58) #[.pointer (some ⟨b6, 0, none⟩)] #[], .func (.func 59) #[.pointer (some ⟨b6, 0, none⟩)] #[], .func (.func 60) #[.pointer (some ⟨b6, 0, none⟩)] #[]]) 1) = w5' at N R ⊢; generalize w5.heap.size = g at N R ⊢; have HFu := Lib.hid (funsAt_new R); have HN4 := Lib.hid (show g ≠ b6 by rw [N.at_]; exact Nat.ne_of_gt HRd.out.lt); have HRd := Lib.hid (HRd.out.later N.below); have HR4 := Lib.hid (HR4.out.later N.below); have HR5 := Lib.hid (HR5.out.later N.below); have HB := Lib.hid (HB.out.trans (N.below.mono HB.out.size)); have HN2 := Lib.hid (show 5 ≠ b6 by have := HM.out.lt; have := HL6.out; omega); have HN3 := Lib.hid (show 0 ≠ b6 by have := HC.out.lt; have := HL6.out; omega); have HN1 := Lib.hid (show 7 ≠ b6 ∧ 8 ≠ b6 by have := HT.out.1.lt; have := HT.out.2.lt; have := HL6.out; exact ⟨by omega, by omega⟩); clear N R; refine (in_order b6 g 7 v n0 t _ HRd.out HI.out (HM.out.on HB.out) (HT.out.on HB.out) (HC.out.on HB.out) HN1.out HN2.out HN3.out HN4.out HFu.out).mono ?_; intro e w6 hrd; rw [HU.out] at hrd; obtain ⟨rfl, hrow, hk⟩ := hrd; have HRd := Lib.hid hrow; have HR4 := Lib.hid (hk.row HR4.out (by have := HL6.out; omega)); have HR5 := Lib.hid (hk.blk HR5.out (by have := HL6.out; omega)); have HB := Lib.hid (HB.out.trans (hk.below (by have := HL6.out; omega) HB.out.size)); clear hk hrow)
        | (refine rd_load rfl _ rfl b6 rfl q r ?_ ?_; exact HRd.out)
        | (go_at_call 6; refine (print_any q _ HF.out (HV.out.on HB.out) (HC.out.on HB.out) (HP.out.on HB.out)).mono ?_; rintro e w7 ⟨rfl, hb⟩; have HRd := Lib.hid (HRd.out.later hb); have HR4 := Lib.hid (HR4.out.later hb); have HR5 := Lib.hid (HR5.out.later hb); have HB := Lib.hid (HB.out.trans (hb.mono HB.out.size)); clear hb)
        | (go_at_call 61; refine (demand_yes _).mono ?_; rintro e w8 ⟨rfl, rfl⟩)
        | (refine step_store rfl _ _ rfl b4 rfl zeroP q rfl ?_ ?_; exact HR4.out; intro w9 U R; have HR4 := Lib.hid R; have HR5 := Lib.hid (HR5.out.apart U (by have := HL6.out; omega)); have HB := Lib.hid (HB.out.trans (U.below (by have := HL6.out; omega))); have hfz := HR5.out.frozen 0; have hcl : w9.cell? ⟨b5, 0, none⟩ = some (.int .i64 0) := (by rw [Blk.cell HR5.out]; rfl); clear U R))
      change Leaves _ _ _ _ _ _ _
      refine leaves_cons (f := 51) (args := #[.pointer (some ⟨b4, 0, none⟩), .pointer (some ⟨b5, 0, none⟩)]) (by simp) (by simp [go_sem]) ?_
      refine (catch_idle b4 b5 _).mono ?_
      rintro e u' w10 ⟨rfl, rfl, rfl⟩
      refine ⟨_, results_cc rfl _ _ _ _ _ _ rfl rfl (HR4.out.apart (Upd.setCell _ b5 0 _) (by have := HL6.out; omega)) (HR5.out.set 0 (.int .i64 0)), ?_, HB.out.trans ((Upd.setCell _ b5 0 _).below (by have := HL6.out; omega))⟩
      rw [HE.out]; rfl
end Go.Proofs.YtjbfjohgfbipgaaGreatDoor
