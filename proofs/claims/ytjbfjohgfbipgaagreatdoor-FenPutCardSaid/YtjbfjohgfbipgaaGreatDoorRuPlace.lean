/-
  Contracts of the program's placed and rookFiles.
-/
import Derived.Test.YtjbfjohgfbipgaaGreatDoorFnBaseC
import Derived.Test.YtjbfjohgfbipgaaGreatDoorRuRow
import Derived.IntWalk
namespace Go.Proofs.YtjbfjohgfbipgaaGreatDoor
open Go.RowKit
set_option linter.unusedVariables false

theorem seek_full {r : Nat → Int} {n k d : Nat} (h : (r k != 0) = true) : seekR r (n + 1) k d = seekR r n (k + 1) d := by
  have : (r k == 0) = false := by simpa [bne] using h
  show (bif r k == 0 then _ else _) = _
  rw [this]; rfl
theorem seek_here {r : Nat → Int} {n k : Nat} (h : (r k != 0) = false) : seekR r (n + 1) k 0 = k := by
  have : (r k == 0) = true := by simpa [bne] using h
  unfold seekR; rw [this]; rfl
theorem seek_next {r : Nat → Int} {n k d : Nat} (h : (r k != 0) = false) : seekR r (n + 1) k (d + 1) = seekR r n (k + 1) d := by
  have : (r k == 0) = true := by simpa [bne] using h
  rw [seekR, this]; rfl
set_option maxHeartbeats 1000000 in
theorem placed_any (r : Nat → Int) (c : Nat) (x : Int) (w : World) (hc : c ≤ 8) : Calls Tryz.prog 106 #[.agg (arrA 8 .u8 r), .int .i64 (c : Int), .int .u8 x] w (RowL (placeR r c x) w) := by
  obtain ⟨s, Hs⟩ : ∃ s, Hid (seekR r 8 0 c = s) := ⟨_, Lib.hid rfl⟩
  have HE := Lib.hid (show placeR r c x = upd r s x by unfold placeR; rw [Hs.out])
  go_enter Tryz.func106, Tryz.ntmps106
  go_wp2_with (first
    | (refine blk_box rfl 67 _ rfl (arrA 8 .u8 r) rfl ?_; intro b3 w1 N R; have HG3 := Lib.hid (Nat.le_of_eq N.at_.symm); have HR3 := Lib.hid R; have HB := Lib.hid N.below; clear N R)
    | (refine arr_alloc rfl 67 rfl 8 .u8 zero58 ?_; intro b6 w1 N R; have HG6 := Lib.hid (show w.heap.size ≤ b6 by have := N.at_; have := HB.out.size; omega); have HD := Lib.hid (show b6 ≠ b3 by have := N.at_; have := HR3.out.lt; omega); have HR3 := Lib.hid (HR3.out.later N.below); have HR6 := Lib.hid R; have HB := Lib.hid (below_on HB.out N.below); clear N R)
    | (refine arr_load rfl 67 _ rfl b3 rfl 8 .u8 r HR3.out _ Tryz.underlying67 rfl size58 ?_))
  go_loopw [1, 10] (fun d i wr => ∃ k m : Nat, k ≤ 8 ∧ m ≤ 8 ∧ i = .int .i64 (k : Int) ∧ d = .int .i64 (m : Int) ∧ seekR r (8 - k) k m = s ∧ Blk wr b3 67 (arrA 8 .u8 r) ∧ Blk wr b6 67 (arrA 8 .u8 zeroP) ∧ Below w.heap.size w wr) (fun _ i _ => 8 - (intOf i).toNat)
  case atStart => exact ⟨0, c, by omega, hc, rfl, rfl, Hs.out, HR3.out, HR6.out, HB.out⟩
  case round =>
    clear HR3 HR6 HB
    obtain ⟨k, m, hk, hm, rfl, rfl, hs, h3, h6, hb⟩ := hrel
    have HS := Lib.hid hs
    have HR3 := Lib.hid h3
    have HR6 := Lib.hid h6
    have HB := Lib.hid hb
    clear hs h3 h6 hb
    by_cases hlt : k < 8
    · obtain ⟨n, Hn⟩ : ∃ n, Hid (8 - k = n + 1) := ⟨7 - k, Lib.hid (by omega)⟩
      have HN := Lib.hid (show 8 - (k + 1) = n by have := Hn.out; omega)
      have HS := Lib.hid (show seekR r (n + 1) k m = s by rw [← Hn.out]; exact HS.out)
      obtain ⟨y, Hy⟩ : ∃ y, Hid (r k = y) := ⟨_, Lib.hid rfl⟩
      cases g : (y != 0)
      · by_cases h0 : m = 0
        · subst h0
          have HK := Lib.hid (show k = s by have := HS.out; rwa [seek_here (by rw [Hy.out]; exact g)] at this)
          go_wp2_with (first
            | (refine arr_index rfl 67 5 _ _ rfl 8 .u8 r rfl k rfl hlt Tryz.underlying67 Tryz.underlying5 size5 ?_; rw [Hy.out])
            | (refine arr_cell rfl 5 _ _ rfl b3 k rfl .u8 x rfl 67 8 r HR3.out hlt size5 ?_; intro w2 U R; have HR6 := Lib.hid (HR6.out.apart U HD.out); have HR3 := Lib.hid R; have HB := Lib.hid (HB.out.trans (U.below HG3.out)); clear U R)
            | (refine arr_load rfl 67 _ rfl b3 rfl 8 .u8 (upd r k x) HR3.out _ Tryz.underlying67 rfl size58 ?_)
            | (refine arr_store rfl 67 _ _ rfl b6 rfl 8 .u8 zeroP (upd r k x) rfl HR6.out size58 ?_; intro w2 U R; have HR6 := Lib.hid R; have HB := Lib.hid (HB.out.trans (U.below HG6.out)); clear U R))
          refine bodyPost_ret (v := .agg (arrA 8 .u8 (upd r k x))) (results_arr rfl _ _ _ _ rfl HR6.out) rfl ⟨by rw [HE.out, ← HK.out], HB.out⟩
        · obtain ⟨d, rfl⟩ : ∃ d, m = d + 1 := ⟨m - 1, by omega⟩
          have HS := Lib.hid (show seekR r n (k + 1) d = s by have := HS.out; rwa [seek_next (by rw [Hy.out]; exact g)] at this)
          have g1 : (((d : Int) + 1) == 0) = false := by simp; omega
          go_wp2_with (refine arr_index rfl 67 5 _ _ rfl 8 .u8 r rfl k rfl hlt Tryz.underlying67 Tryz.underlying5 size5 ?_; rw [Hy.out])
          go_roundw
          case rel => exact ⟨k + 1, d, by omega, by omega, by go_num, by go_num, by rw [HN.out]; exact HS.out, HR3.out, HR6.out, HB.out⟩
          case measure => simp [intOf]; omega
      · have HS := Lib.hid (show seekR r n (k + 1) m = s by have := HS.out; rwa [seek_full (by rw [Hy.out]; exact g)] at this)
        go_wp2_with (refine arr_index rfl 67 5 _ _ rfl 8 .u8 r rfl k rfl hlt Tryz.underlying67 Tryz.underlying5 size5 ?_; rw [Hy.out])
        go_roundw
        case rel => exact ⟨k + 1, m, by omega, by omega, by go_num, rfl, by rw [HN.out]; exact HS.out, HR3.out, HR6.out, HB.out⟩
        case measure => simp [intOf]; omega
    · obtain rfl : k = 8 := by omega
      have HK := Lib.hid (show s = 8 from HS.out.symm)
      go_wp2_with (first
        | (refine arr_load rfl 67 _ rfl b3 rfl 8 .u8 r HR3.out _ Tryz.underlying67 rfl size58 ?_)
        | (refine arr_store rfl 67 _ _ rfl b6 rfl 8 .u8 zeroP r rfl HR6.out size58 ?_; intro w2 U R; have HR6 := Lib.hid R; have HB := Lib.hid (HB.out.trans (U.below HG6.out)); clear U R))
      refine bodyPost_ret (v := .agg (arrA 8 .u8 r)) (results_arr rfl _ _ _ _ rfl HR6.out) rfl ⟨?_, HB.out⟩
      rw [HE.out, HK.out, arrA_ext (p := upd r 8 x) (q := r) fun i hi => upd_other _ _ _ _ (by omega)]
theorem size35 : (Tryz.prog.info? 27).map (·.size) = some 2 := by kernel_rfl
theorem size34 : (Tryz.prog.info? 26).map (·.size) = some 1 := by kernel_rfl
theorem zero35 : (Tryz.prog.info? 27).map (fun i => (i.zero, i.size)) = some (some (.agg #[.int .i8 0, .int .i8 0]), 2) := by kernel_rfl
theorem two_one (a b : Int) : (#[Value.int .i8 a, .int .i8 b] : Array Value).all (·.oneCell') = true := by simp [Value.oneCell']
theorem rf0_yes {r : Nat → Int} {k : Nat} (h : (r k != 4) = false) : rf0 r (k + 1) = (k : Int) := by
  have : (r k == 4) = true := by simpa [bne] using h
  rw [rf0, this]; rfl
theorem rf0_no {r : Nat → Int} {k : Nat} (h : (r k != 4) = true) : rf0 r (k + 1) = rf0 r k := by
  have : (r k == 4) = false := by simpa [bne] using h
  rw [rf0, this]; rfl
theorem rf1_yes {r : Nat → Int} {k : Nat} (h : (r k != 4) = false) (g : (rf1 r k == -1) = true) : rf1 r (k + 1) = (k : Int) := by
  have : (r k == 4) = true := by simpa [bne] using h
  rw [rf1, this, g]; rfl
theorem rf1_was {r : Nat → Int} {k : Nat} (h : (r k != 4) = false) (g : (rf1 r k == -1) = false) : rf1 r (k + 1) = rf1 r k := by
  have : (r k == 4) = true := by simpa [bne] using h
  rw [rf1, this, g]; rfl
theorem rf1_no {r : Nat → Int} {k : Nat} (h : (r k != 4) = true) : rf1 r (k + 1) = rf1 r k := by
  have : (r k == 4) = false := by simpa [bne] using h
  rw [rf1, this]; rfl
set_option maxHeartbeats 1000000 in
theorem rooks_any (r : Nat → Int) (w : World) : Calls Tryz.prog 108 #[.agg (arrA 8 .u8 r)] w (AggL #[.int .i8 (rf0 r 8), .int .i8 (rf1 r 8)] w) := by
  go_enter Tryz.func108, Tryz.ntmps108
  go_wp2_with (first
    | (refine blk_box rfl 67 _ rfl (arrA 8 .u8 r) rfl ?_; intro b1 w1 N R; have HG1 := Lib.hid (Nat.le_of_eq N.at_.symm); have HR1 := Lib.hid R; have HB := Lib.hid N.below; clear N R)
    | (refine blk_alloc (op := ⟨some 2, _, _, _, _, _⟩) rfl 27 rfl #[.int .i8 0, .int .i8 0] zero35 ?_; intro b2 w1 N R; have HG2 := Lib.hid (show w.heap.size ≤ b2 by have := N.at_; have := HB.out.size; omega); have HR1 := Lib.hid (HR1.out.later N.below); have HR2 := Lib.hid R; have HB := Lib.hid (below_on HB.out N.below); clear N R)
    | (refine blk_alloc rfl 27 rfl #[.int .i8 0, .int .i8 0] zero35 ?_; intro b3 w1 N R; have HG3 := Lib.hid (show w.heap.size ≤ b3 by have := N.at_; have := HB.out.size; omega); have HD := Lib.hid (show b2 ≠ b3 by have := N.at_; have := HR2.out.lt; omega); have HD1 := Lib.hid (show b1 ≠ b3 by have := N.at_; have := HR1.out.lt; omega); have HR1 := Lib.hid (HR1.out.later N.below); have HR2 := Lib.hid (HR2.out.later N.below); have HR3 := Lib.hid R; have HB := Lib.hid (below_on HB.out N.below); clear N R)
    | (refine blk_store rfl 27 _ _ rfl b3 rfl #[.int .i8 0, .int .i8 0] #[.int .i8 (-1), .int .i8 (-1)] rfl HR3.out rfl (two_one _ _) size35 ?_; intro w2 U R; have HR2 := Lib.hid (HR2.out.apart U HD.out); have HR3 := Lib.hid R; have HR1 := Lib.hid (HR1.out.apart U HD1.out); have HB := Lib.hid (HB.out.trans (U.below HG3.out)); clear U R)
    | (refine arr_load rfl 67 _ rfl b1 rfl 8 .u8 r HR1.out _ Tryz.underlying67 rfl size58 ?_))
  go_loopw [8] (fun i wr => ∃ k : Nat, k ≤ 8 ∧ i = .int .i64 (k : Int) ∧ Blk wr b3 27 #[.int .i8 (rf0 r k), .int .i8 (rf1 r k)] ∧ Blk wr b2 27 #[.int .i8 0, .int .i8 0] ∧ Below w.heap.size w wr) (fun i _ => 8 - (intOf i).toNat)
  case atStart => exact ⟨0, by omega, rfl, HR3.out, HR2.out, HB.out⟩
  case round =>
    clear HR3 HR2 HB
    obtain ⟨k, hk, rfl, h3, h2, hb⟩ := hrel
    have HR3 := Lib.hid h3
    have HR2 := Lib.hid h2
    have HB := Lib.hid hb
    clear h3 h2 hb
    by_cases hlt : k < 8
    · obtain ⟨y, Hy⟩ : ∃ y, Hid (r k = y) := ⟨_, Lib.hid rfl⟩
      obtain ⟨z0, Hz0⟩ : ∃ z, Hid (rf0 r k = z) := ⟨_, Lib.hid rfl⟩
      obtain ⟨z1, Hz1⟩ : ∃ z, Hid (rf1 r k = z) := ⟨_, Lib.hid rfl⟩
      rw [Hz0.out, Hz1.out] at HR3
      cases g : (y != 4)
      · have H0 := Lib.hid (rf0_yes (r := r) (k := k) (by rw [Hy.out]; exact g))
        have hw8 : IntKind.i8.wrap (k : Int) = (k : Int) := IntWalk.i8_in _ (by omega)
        cases g1 : (z1 == -1)
        · have H1 := Lib.hid (rf1_was (r := r) (k := k) (by rw [Hy.out]; exact g) (by rw [Hz1.out]; exact g1))
          go_wp2_with (first
            | (refine arr_index rfl 67 5 _ _ rfl 8 .u8 r rfl k rfl hlt Tryz.underlying67 Tryz.underlying5 size5 ?_; rw [Hy.out])
            | (refine blk_cell rfl 26 _ _ rfl b3 0 rfl .i8 (k : Int) rfl 27 _ HR3.out (by show 0 < 2; omega) size34 ?_; intro w2 U R; have HR2 := Lib.hid (HR2.out.apart U HD.out); have HR3 := Lib.hid (show Blk _ b3 27 #[.int .i8 (k : Int), .int .i8 z1] from R); have HB := Lib.hid (HB.out.trans (U.below HG3.out)); clear U R)
            | (refine step_get rfl 26 _ rfl b3 1 rfl Tryz.underlying26 rfl (.int .i8 z1) (by rw [HR3.out.cell]; rfl) ?_))
          go_roundw
          case rel => exact ⟨k + 1, by omega, by go_num, by rw [H0.out, H1.out, Hz1.out]; exact HR3.out, HR2.out, HB.out⟩
          case measure => simp [intOf]; omega
        · have H1 := Lib.hid (rf1_yes (r := r) (k := k) (by rw [Hy.out]; exact g) (by rw [Hz1.out]; exact g1))
          go_wp2_with (first
            | (refine arr_index rfl 67 5 _ _ rfl 8 .u8 r rfl k rfl hlt Tryz.underlying67 Tryz.underlying5 size5 ?_; rw [Hy.out])
            | (refine blk_cell rfl 26 _ _ rfl b3 0 rfl .i8 (k : Int) rfl 27 _ HR3.out (by show 0 < 2; omega) size34 ?_; intro w2 U R; have HR2 := Lib.hid (HR2.out.apart U HD.out); have HR3 := Lib.hid (show Blk _ b3 27 #[.int .i8 (k : Int), .int .i8 z1] from R); have HB := Lib.hid (HB.out.trans (U.below HG3.out)); clear U R)
            | (refine step_get rfl 26 _ rfl b3 1 rfl Tryz.underlying26 rfl (.int .i8 z1) (by rw [HR3.out.cell]; rfl) ?_)
            | (refine blk_cell rfl 26 _ _ rfl b3 1 rfl .i8 (k : Int) rfl 27 _ HR3.out (by show 1 < 2; omega) size34 ?_; intro w2 U R; have HR2 := Lib.hid (HR2.out.apart U HD.out); have HR3 := Lib.hid (show Blk _ b3 27 #[.int .i8 (k : Int), .int .i8 (k : Int)] from R); have HB := Lib.hid (HB.out.trans (U.below HG3.out)); clear U R))
          go_roundw
          case rel => exact ⟨k + 1, by omega, by go_num, by rw [H0.out, H1.out]; exact HR3.out, HR2.out, HB.out⟩
          case measure => simp [intOf]; omega
      · have H0 := Lib.hid (rf0_no (r := r) (k := k) (by rw [Hy.out]; exact g))
        have H1 := Lib.hid (rf1_no (r := r) (k := k) (by rw [Hy.out]; exact g))
        go_wp2_with (refine arr_index rfl 67 5 _ _ rfl 8 .u8 r rfl k rfl hlt Tryz.underlying67 Tryz.underlying5 size5 ?_; rw [Hy.out])
        go_roundw
        case rel => exact ⟨k + 1, by omega, by go_num, by rw [H0.out, H1.out, Hz0.out, Hz1.out]; exact HR3.out, HR2.out, HB.out⟩
        case measure => simp [intOf]; omega
    · obtain rfl : k = 8 := by omega
      obtain ⟨z0, Hz0⟩ : ∃ z, Hid (rf0 r 8 = z) := ⟨_, Lib.hid rfl⟩
      obtain ⟨z1, Hz1⟩ : ∃ z, Hid (rf1 r 8 = z) := ⟨_, Lib.hid rfl⟩
      rw [Hz0.out, Hz1.out] at HR3
      go_wp2_with (first
        | (refine blk_load rfl 27 _ rfl b3 rfl #[.int .i8 z0, .int .i8 z1] HR3.out _ Tryz.underlying27 rfl size35 ?_)
        | (refine blk_store rfl 27 _ _ rfl b2 rfl #[.int .i8 0, .int .i8 0] #[.int .i8 z0, .int .i8 z1] rfl HR2.out rfl (two_one _ _) size35 ?_; intro w2 U R; have HR2 := Lib.hid R; have HB := Lib.hid (HB.out.trans (U.below HG2.out)); clear U R))
      refine bodyPost_ret (v := .agg #[.int .i8 z0, .int .i8 z1]) (results_blk rfl _ _ _ _ rfl HR2.out Tryz.underlying27 rfl size35 rfl) rfl ⟨by rw [Hz0.out, Hz1.out], HB.out⟩
end Go.Proofs.YtjbfjohgfbipgaaGreatDoor
