/-
  The contract of the program's Mirror.
-/
import Derived.Test.YtgodoipmnenohaaDoorMir
namespace Go.Proofs.YtgodoipmnenohaaDoor
open Go.RowKit
set_option linter.unusedVariables false
theorem size23 : (Tryd.prog.info? 23).map (·.size) = some 1 := by kernel_rfl
theorem size26 : (Tryd.prog.info? 26).map (·.size) = some 1 := by kernel_rfl
theorem size25 : (Tryd.prog.info? 25).map (·.size) = some 12 := by kernel_rfl
theorem size28 : (Tryd.prog.info? 28).map (·.size) = some 4 := by kernel_rfl
theorem size29 : (Tryd.prog.info? 29).map (·.size) = some 2 := by kernel_rfl
theorem wrap_i8 {n : Int} (h : -128 ≤ n ∧ n ≤ 127) : IntKind.i8.wrap n = n := by
  exact IntWalk.i8_in n h
set_option maxRecDepth 100000 in
set_option maxHeartbeats 4000000 in
theorem mirror_any (p : Nat → Int) (w : World) (hp : PosR p) (hD : TabDb w) : Calls Tryd.prog 22 #[.agg (posA p)] w (PosL (mirP p) w) := by
  have HP := Lib.hid hp
  have HT := Lib.hid hD
  obtain ⟨m, hm⟩ := Int.eq_ofNat_of_zero_le hp.prom.1
  have HM := Lib.hid hm
  have HMl := Lib.hid (show m < W64 by have := hp.prom.2; rw [hm] at this; exact this)
  have HK65 := Lib.hid (show kAt 65 = .u64 from rfl)
  have HK78 := Lib.hid (show kAt 78 = .u8 from rfl)
  have HK83 := Lib.hid (show kAt 83 = .i8 from rfl)
  clear hp hD hm
  go_enter Tryd.func22, Tryd.ntmps22
  go_wp2_with (first
    | (refine step_box rfl _ rfl p rfl ?_; intro b1 w1 N R; have HR1 := Lib.hid R; have HB := Lib.hid N.below; have HG1 := Lib.hid (Nat.le_of_eq N.at_.symm); clear N R)
    | (refine step_alloc (op := ⟨some 2, _, _, _, _, _⟩) rfl rfl ?_; intro b2 w2 N R; have HD12 := Lib.hid (N.ne HR1.out); have HR1 := Lib.hid (N.row HR1.out); have HR2 := Lib.hid R; have HG2 := Lib.hid (show w.heap.size ≤ b2 by have := HB.out.size; have := N.at_; omega); have HB := Lib.hid (below_on HB.out N.below); clear N R)
    | (refine step_load (op := ⟨some 7, _, _, _, _, _⟩) rfl _ rfl _ rfl p HR1.out ?_)
    | (refine step_alloc (op := ⟨some 3, _, _, _, _, _⟩) rfl rfl ?_; intro b3 w3 N R; have HD13 := Lib.hid (N.ne HR1.out); have HD23 := Lib.hid (N.ne HR2.out); have HR1 := Lib.hid (N.row HR1.out); have HR2 := Lib.hid (N.row HR2.out); have HR3 := Lib.hid R; have HG3 := Lib.hid (show w.heap.size ≤ b3 by have := HB.out.size; have := N.at_; omega); have HB := Lib.hid (below_on HB.out N.below); clear N R)
    | (refine step_store rfl _ _ rfl _ rfl _ p rfl HR3.out ?_; intro w4 U R; have HR1 := Lib.hid (HR1.out.apart U HD13.out); have HR2 := Lib.hid (HR2.out.apart U HD23.out); have HR3 := Lib.hid R; have HB := Lib.hid (HB.out.trans (U.below HG3.out)); clear U R)
    | (refine step_board rfl _ rfl _ rfl p HR1.out ?_))
  go_loopw [10] (fun i wr => ∃ k : Nat, k ≤ 64 ∧ i = .int .i64 (k : Int) ∧ Below w.heap.size w wr ∧ Row wr b1 p ∧ Row wr b2 zeroP ∧ Row wr b3 (mirTo p k)) (fun i _ => 64 - (intOf i).toNat)
  case atStart => exact ⟨0, by omega, rfl, HB.out, HR1.out, HR2.out, HR3.out⟩
  case round =>
    clear HR1 HR2 HR3 HB
    obtain ⟨k, hk, rfl, hb, hr1, hr2, hr3⟩ := hrel
    have HB := Lib.hid hb
    have HR1 := Lib.hid hr1
    have HR2 := Lib.hid hr2
    have HR3 := Lib.hid hr3
    clear hb hr1 hr2 hr3
    by_cases hlt : k < 64
    · obtain ⟨r0, r1⟩ := HP.out.bd k hlt
      have hc := run_bd p k hlt
      have HF := Lib.hid (flipS_nat hlt)
      have HL := Lib.hid hlt
      have HS := Lib.hid (show mirTo p (k + 1) = upd (mirTo p k) (1 + flN k) (othZ (p (1 + k))) from rfl)
      have hj := flN_lt hlt
      obtain ⟨n, Hn⟩ : ∃ n, Hid (p (1 + k) = n) := ⟨_, Lib.hid rfl⟩
      obtain ⟨j, Hj⟩ : ∃ j, Hid (flN k = j) := ⟨_, Lib.hid rfl⟩
      rw [Hn.out] at hc r0 r1 HS
      rw [Hj.out] at hj HF HS
      have HK := Lib.hid (kAt_board (Nat.zero_le _) hj)
      have HI := Lib.hid (show 1 + j < 88 by omega)
      go_wp2_with fail
      refine (flipped_any _ _ HL.out (HT.out.on HB.out)).mono ?_; rintro e w5 ⟨rfl, rfl⟩; rw [HF.out]
      go_wp2_with fail
      refine (oth_any _ _ r0 r1).mono ?_; rintro e w5 ⟨rfl, rfl⟩
      go_wp2_with (refine step_cell rfl 5 _ _ rfl _ _ rfl _ _ rfl _ HR3.out HI.out HK.out size5 ?_; intro w6 U R; have HR1 := Lib.hid (HR1.out.apart U HD13.out); have HR2 := Lib.hid (HR2.out.apart U HD23.out); have HR3 := Lib.hid R; have HB := Lib.hid (HB.out.trans (U.below HG3.out)); clear U R)
      go_roundw
      case rel => exact ⟨k + 1, by omega, by go_num, HB.out, HR1.out, HR2.out, by rw [HS.out]; exact HR3.out⟩
      case measure => simp [intOf]; omega
    · obtain rfl : k = 64 := by omega
      clear hk hlt
      have hc65 := HR1.out.cell 65 (by omega)
      rw [HK65.out, HM.out] at hc65
      go_wp2_with fail
      refine (flip_any _ _ HMl.out).mono ?_; rintro e w5 ⟨rfl, rfl⟩
      clear hc65
      go_wp2_with (first
        | (refine step_cell rfl 23 _ _ rfl _ _ rfl _ _ rfl _ HR3.out (by omega) rfl size23 ?_; intro w6 U R; have HR1 := Lib.hid (HR1.out.apart U HD13.out); have HR2 := Lib.hid (HR2.out.apart U HD23.out); have HR3 := Lib.hid R; have HB := Lib.hid (HB.out.trans (U.below HG3.out)); clear U R)
        | (refine step_read (op := ⟨some 26, _, _, _, _, _⟩) rfl 25 _ rfl _ 66 12 rfl p HR1.out (by omega) _ Tryd.underlying25 rfl size25 ?_))
      refine (ex12_p p _).mono ?_; rintro e w7 ⟨rfl, hb⟩; have HR1 := Lib.hid (HR1.out.later hb); have HR2 := Lib.hid (HR2.out.later hb); have HR3 := Lib.hid (HR3.out.later hb); have HB := Lib.hid (below_on HB.out hb); clear hb
      go_wp2_with (first
        | (refine step_write rfl 25 _ _ rfl _ 66 12 rfl _ (exP p) rfl HR3.out (by omega) size25 ?_; intro w6 U R; have HR1 := Lib.hid (HR1.out.apart U HD13.out); have HR2 := Lib.hid (HR2.out.apart U HD23.out); have HR3 := Lib.hid R; have HB := Lib.hid (HB.out.trans (U.below HG3.out)); clear U R)
        | (refine step_read (op := ⟨some 30, _, _, _, _, _⟩) rfl 28 _ rfl _ 79 4 rfl p HR1.out (by omega) _ Tryd.underlying28 rfl size28 ?_))
      refine (ex4_p p _).mono ?_; rintro e w7 ⟨rfl, hb⟩; have HR1 := Lib.hid (HR1.out.later hb); have HR2 := Lib.hid (HR2.out.later hb); have HR3 := Lib.hid (HR3.out.later hb); have HB := Lib.hid (below_on HB.out hb); clear hb
      go_wp2_with (first
        | (refine step_write rfl 28 _ _ rfl _ 79 4 rfl _ (exP p) rfl HR3.out (by omega) size28 ?_; intro w6 U R; have HR1 := Lib.hid (HR1.out.apart U HD13.out); have HR2 := Lib.hid (HR2.out.apart U HD23.out); have HR3 := Lib.hid R; have HB := Lib.hid (HB.out.trans (U.below HG3.out)); clear U R)
        | (refine step_read (op := ⟨some 34, _, _, _, _, _⟩) rfl 29 _ rfl _ 84 2 rfl p HR1.out (by omega) _ Tryd.underlying29 rfl size29 ?_))
      refine (ex2_p p _).mono ?_; rintro e w7 ⟨rfl, hb⟩; have HR1 := Lib.hid (HR1.out.later hb); have HR2 := Lib.hid (HR2.out.later hb); have HR3 := Lib.hid (HR3.out.later hb); have HB := Lib.hid (below_on HB.out hb); clear hb
      obtain ⟨u0, u1⟩ := HP.out.turn
      obtain ⟨v0, v1⟩ := HP.out.pass
      by_cases t1 : p 78 ≤ 1
      · cases g : sq (p 83)
        · have HE0 := mir_yn t1 g
          rw [mir5_m HM.out] at HE0
          have HE := Lib.hid HE0
          clear HE0
          obtain ⟨tt, HT78⟩ : ∃ tt, Hid (p 78 = tt) := ⟨_, Lib.hid rfl⟩
          obtain ⟨ss, HT83⟩ : ∃ ss, Hid (p 83 = ss) := ⟨_, Lib.hid rfl⟩
          rw [HT78.out] at u0 u1 t1 HE
          rw [HT83.out] at v0 v1 g
          go_wp2_with (first
            | (refine step_write rfl 29 _ _ rfl _ 84 2 rfl _ (exP p) rfl HR3.out (by omega) size29 ?_; intro w6 U R; have HR1 := Lib.hid (HR1.out.apart U HD13.out); have hc78 := HR1.out.cell 78 (by omega); have hc83 := HR1.out.cell 83 (by omega); rw [HK78.out, HT78.out] at hc78; rw [HK83.out, HT83.out] at hc83; have HR2 := Lib.hid (HR2.out.apart U HD23.out); have HR3 := Lib.hid R; have HB := Lib.hid (HB.out.trans (U.below HG3.out)); clear U R)
            | (refine step_cell rfl 5 _ _ rfl _ _ rfl _ _ rfl _ HR3.out (by omega) rfl size5 ?_; clear hc78 hc83; intro w6 U R; have HR1 := Lib.hid (HR1.out.apart U HD13.out); have hc83 := HR1.out.cell 83 (by omega); rw [HK83.out, HT83.out] at hc83; have HR2 := Lib.hid (HR2.out.apart U HD23.out); have HR3 := Lib.hid R; have HB := Lib.hid (HB.out.trans (U.below HG3.out)); clear U R))
          refine (isq_any _ _).mono ?_; rintro e w5 ⟨rfl, rfl⟩
          go_wp2_with (first
            | (refine step_load rfl _ rfl _ rfl _ HR3.out ?_)
            | (refine step_store rfl _ _ rfl _ rfl _ _ rfl HR2.out ?_; intro w9 U R; have HR2 := Lib.hid R; have HB := Lib.hid (HB.out.trans (U.below HG2.out)); clear U R))
          refine bodyPost_ret (v := .agg (posA (mirP p))) (results_eq rfl _ _ _ _ _ rfl HR2.out HE.out) rfl ⟨rfl, HB.out⟩
        · have HE0 := mir_yy t1 g
          rw [mir5_m HM.out] at HE0
          have HE := Lib.hid HE0
          clear HE0
          obtain ⟨s, hs⟩ := Int.eq_ofNat_of_zero_le (sq_true.1 g).1
          have HT83 := Lib.hid hs
          have HL := Lib.hid (show s < 64 by have := (sq_true.1 g).2; omega)
          rw [hs] at g HE
          clear hs v0 v1
          rw [flipS_nat HL.out] at HE
          have HF := Lib.hid (flipS_nat HL.out)
          have HW := Lib.hid (wrap_i8 (n := ((flN s : Nat) : Int)) (by have := flN_lt HL.out; omega))
          obtain ⟨tt, HT78⟩ : ∃ tt, Hid (p 78 = tt) := ⟨_, Lib.hid rfl⟩
          obtain ⟨j, Hj⟩ : ∃ j, Hid (flN s = j) := ⟨_, Lib.hid rfl⟩
          rw [Hj.out] at HF HE HW
          rw [HT78.out] at u0 u1 t1 HE
          have v0 : (-128 : Int) ≤ (s : Int) := by omega
          have v1 : (s : Int) ≤ 127 := by have := HL.out; omega
          go_wp2_with (first
            | (refine step_write rfl 29 _ _ rfl _ 84 2 rfl _ (exP p) rfl HR3.out (by omega) size29 ?_; intro w6 U R; have HR1 := Lib.hid (HR1.out.apart U HD13.out); have hc78 := HR1.out.cell 78 (by omega); have hc83 := HR1.out.cell 83 (by omega); rw [HK78.out, HT78.out] at hc78; rw [HK83.out, HT83.out] at hc83; have HR2 := Lib.hid (HR2.out.apart U HD23.out); have HR3 := Lib.hid R; have HB := Lib.hid (HB.out.trans (U.below HG3.out)); clear U R)
            | (refine step_cell rfl 5 _ _ rfl _ _ rfl _ _ rfl _ HR3.out (by omega) rfl size5 ?_; clear hc78 hc83; intro w6 U R; have HR1 := Lib.hid (HR1.out.apart U HD13.out); have hc83 := HR1.out.cell 83 (by omega); rw [HK83.out, HT83.out] at hc83; have HR2 := Lib.hid (HR2.out.apart U HD23.out); have HR3 := Lib.hid R; have HB := Lib.hid (HB.out.trans (U.below HG3.out)); clear U R))
          refine (isq_any _ _).mono ?_; rintro e w5 ⟨rfl, rfl⟩
          go_wp2_with fail
          refine (flipped_any _ _ HL.out (HT.out.on HB.out)).mono ?_; rintro e w5 ⟨rfl, rfl⟩; rw [HF.out]
          have hw8 : IntKind.i8.wrap ((j : Nat) : Int) = ((j : Nat) : Int) := HW.out
          go_wp2_with (first
            | (refine step_cell rfl 26 _ _ rfl _ _ rfl _ _ rfl _ HR3.out (by omega) rfl size26 ?_; intro w8 U R; have HR1 := Lib.hid (HR1.out.apart U HD13.out); have HR2 := Lib.hid (HR2.out.apart U HD23.out); have HR3 := Lib.hid R; have HB := Lib.hid (HB.out.trans (U.below HG3.out)); clear U R)
            | (refine step_load rfl _ rfl _ rfl _ HR3.out ?_)
            | (refine step_store rfl _ _ rfl _ rfl _ _ rfl HR2.out ?_; intro w9 U R; have HR2 := Lib.hid R; have HB := Lib.hid (HB.out.trans (U.below HG2.out)); clear U R))
          refine bodyPost_ret (v := .agg (posA (mirP p))) (results_eq rfl _ _ _ _ _ rfl HR2.out HE.out) rfl ⟨rfl, HB.out⟩
      · cases g : sq (p 83)
        · have HE0 := mir_nn t1 g
          rw [mir5_m HM.out] at HE0
          have HE := Lib.hid HE0
          clear HE0
          obtain ⟨tt, HT78⟩ : ∃ tt, Hid (p 78 = tt) := ⟨_, Lib.hid rfl⟩
          obtain ⟨ss, HT83⟩ : ∃ ss, Hid (p 83 = ss) := ⟨_, Lib.hid rfl⟩
          rw [HT78.out] at u0 u1 t1
          rw [HT83.out] at v0 v1 g
          go_wp2_with (first
            | (refine step_write rfl 29 _ _ rfl _ 84 2 rfl _ (exP p) rfl HR3.out (by omega) size29 ?_; intro w6 U R; have HR1 := Lib.hid (HR1.out.apart U HD13.out); have hc78 := HR1.out.cell 78 (by omega); have hc83 := HR1.out.cell 83 (by omega); rw [HK78.out, HT78.out] at hc78; rw [HK83.out, HT83.out] at hc83; have HR2 := Lib.hid (HR2.out.apart U HD23.out); have HR3 := Lib.hid R; have HB := Lib.hid (HB.out.trans (U.below HG3.out)); clear U R))
          refine (isq_any _ _).mono ?_; rintro e w5 ⟨rfl, rfl⟩
          go_wp2_with (first
            | (refine step_load rfl _ rfl _ rfl _ HR3.out ?_)
            | (refine step_store rfl _ _ rfl _ rfl _ _ rfl HR2.out ?_; intro w9 U R; have HR2 := Lib.hid R; have HB := Lib.hid (HB.out.trans (U.below HG2.out)); clear U R))
          refine bodyPost_ret (v := .agg (posA (mirP p))) (results_eq rfl _ _ _ _ _ rfl HR2.out HE.out) rfl ⟨rfl, HB.out⟩
        · have HE0 := mir_ny t1 g
          rw [mir5_m HM.out] at HE0
          have HE := Lib.hid HE0
          clear HE0
          obtain ⟨s, hs⟩ := Int.eq_ofNat_of_zero_le (sq_true.1 g).1
          have HT83 := Lib.hid hs
          have HL := Lib.hid (show s < 64 by have := (sq_true.1 g).2; omega)
          rw [hs] at g HE
          clear hs v0 v1
          rw [flipS_nat HL.out] at HE
          have HF := Lib.hid (flipS_nat HL.out)
          have HW := Lib.hid (wrap_i8 (n := ((flN s : Nat) : Int)) (by have := flN_lt HL.out; omega))
          obtain ⟨tt, HT78⟩ : ∃ tt, Hid (p 78 = tt) := ⟨_, Lib.hid rfl⟩
          obtain ⟨j, Hj⟩ : ∃ j, Hid (flN s = j) := ⟨_, Lib.hid rfl⟩
          rw [Hj.out] at HF HE HW
          rw [HT78.out] at u0 u1 t1
          have v0 : (-128 : Int) ≤ (s : Int) := by omega
          have v1 : (s : Int) ≤ 127 := by have := HL.out; omega
          go_wp2_with (first
            | (refine step_write rfl 29 _ _ rfl _ 84 2 rfl _ (exP p) rfl HR3.out (by omega) size29 ?_; intro w6 U R; have HR1 := Lib.hid (HR1.out.apart U HD13.out); have hc78 := HR1.out.cell 78 (by omega); have hc83 := HR1.out.cell 83 (by omega); rw [HK78.out, HT78.out] at hc78; rw [HK83.out, HT83.out] at hc83; have HR2 := Lib.hid (HR2.out.apart U HD23.out); have HR3 := Lib.hid R; have HB := Lib.hid (HB.out.trans (U.below HG3.out)); clear U R))
          refine (isq_any _ _).mono ?_; rintro e w5 ⟨rfl, rfl⟩
          go_wp2_with fail
          refine (flipped_any _ _ HL.out (HT.out.on HB.out)).mono ?_; rintro e w5 ⟨rfl, rfl⟩; rw [HF.out]
          have hw8 : IntKind.i8.wrap ((j : Nat) : Int) = ((j : Nat) : Int) := HW.out
          go_wp2_with (first
            | (refine step_cell rfl 26 _ _ rfl _ _ rfl _ _ rfl _ HR3.out (by omega) rfl size26 ?_; intro w8 U R; have HR1 := Lib.hid (HR1.out.apart U HD13.out); have HR2 := Lib.hid (HR2.out.apart U HD23.out); have HR3 := Lib.hid R; have HB := Lib.hid (HB.out.trans (U.below HG3.out)); clear U R)
            | (refine step_load rfl _ rfl _ rfl _ HR3.out ?_)
            | (refine step_store rfl _ _ rfl _ rfl _ _ rfl HR2.out ?_; intro w9 U R; have HR2 := Lib.hid R; have HB := Lib.hid (HB.out.trans (U.below HG2.out)); clear U R))
          refine bodyPost_ret (v := .agg (posA (mirP p))) (results_eq rfl _ _ _ _ _ rfl HR2.out HE.out) rfl ⟨rfl, HB.out⟩
end Go.Proofs.YtgodoipmnenohaaDoor
