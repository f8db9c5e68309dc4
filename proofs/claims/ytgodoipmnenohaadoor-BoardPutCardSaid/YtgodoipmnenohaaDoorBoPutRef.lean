/-
  Contracts of the document's own Put, Of.
-/
import Derived.Test.YtgodoipmnenohaaDoorBoPut
namespace Go.Proofs.YtgodoipmnenohaaDoor
open Go.RowKit
set_option linter.unusedVariables false
set_option maxRecDepth 100000 in
set_option maxHeartbeats 1000000 in
theorem rput_pos (p : Nat → Int) (s x : Int) (w : World) (h0 : 0 ≤ x) (h1 : x ≤ 255) : Calls Tryd.prog 21 #[.agg (posA p), .int .i64 s, .int .u8 x] w (PosL (putP p s x) w) := by
  by_cases k0 : s < 0
  · have d0 : decide (s < 0) = true := decide_eq_true k0
    have HS := Lib.hid (putP_no (p := p) (show putB s x = false by simp only [putB, sq_false.2 (.inl k0)]; rfl))
    go_enter Tryd.func21, Tryd.ntmps21
    go_wp2_with (first
        | (refine step_box rfl _ rfl p rfl ?_; intro b3 w3 N3 R3; have HN3 := Lib.hid N3; have HR3 := Lib.hid R3; clear N3 R3)
        | (refine step_alloc rfl rfl ?_; intro b6 w6 N6 R6; have HN6 := Lib.hid N6; have HR6 := Lib.hid R6; have HR3b := Lib.hid (N6.row HR3.out); have HD := Lib.hid (N6.ne HR3.out); have HB6 := Lib.hid (below_on HN3.out.below N6.below); have HG := Lib.hid (show w.heap.size ≤ b3 ∧ w.heap.size ≤ b6 by have := HN3.out.at_; have := N6.at_; have := HN3.out.size; omega); clear N6 R6)
        | (refine step_load rfl _ rfl _ rfl p HR3b.out ?_)
        | (refine step_store rfl _ _ rfl _ rfl _ _ rfl HR6.out ?_; intro w8 U8 R8; have HU8 := Lib.hid U8; have HR8 := Lib.hid R8; clear U8 R8))
    refine bodyPost_ret (v := .agg (posA p)) (results_pos rfl _ _ _ _ rfl HR8.out) rfl ⟨by rw [HS.out], ?_⟩
    exact HB6.out.trans (HU8.out.below HG.out.2)
  · have d0 : decide (s < 0) = false := decide_eq_false k0
    by_cases k1 : 63 < s
    · have d1 : decide (63 < s) = true := decide_eq_true k1
      have HS := Lib.hid (putP_no (p := p) (show putB s x = false by simp only [putB, sq_false.2 (.inr (show (64 : Int) ≤ s by omega))]; rfl))
      go_enter Tryd.func21, Tryd.ntmps21
      go_wp2_with (first
          | (refine step_box rfl _ rfl p rfl ?_; intro b3 w3 N3 R3; have HN3 := Lib.hid N3; have HR3 := Lib.hid R3; clear N3 R3)
          | (refine step_alloc rfl rfl ?_; intro b6 w6 N6 R6; have HN6 := Lib.hid N6; have HR6 := Lib.hid R6; have HR3b := Lib.hid (N6.row HR3.out); have HD := Lib.hid (N6.ne HR3.out); have HB6 := Lib.hid (below_on HN3.out.below N6.below); have HG := Lib.hid (show w.heap.size ≤ b3 ∧ w.heap.size ≤ b6 by have := HN3.out.at_; have := N6.at_; have := HN3.out.size; omega); clear N6 R6)
          | (refine step_load rfl _ rfl _ rfl p HR3b.out ?_)
          | (refine step_store rfl _ _ rfl _ rfl _ _ rfl HR6.out ?_; intro w8 U8 R8; have HU8 := Lib.hid U8; have HR8 := Lib.hid R8; clear U8 R8))
      refine bodyPost_ret (v := .agg (posA p)) (results_pos rfl _ _ _ _ rfl HR8.out) rfl ⟨by rw [HS.out], ?_⟩
      exact HB6.out.trans (HU8.out.below HG.out.2)
    · obtain ⟨n, rfl⟩ := Int.eq_ofNat_of_zero_le (show 0 ≤ s by omega)
      have d1 : decide (63 < (n : Int)) = false := decide_eq_false k1
      have hn : n < 64 := by omega
      have g0 : sq (n : Int) = true := sq_true.2 ⟨by omega, by omega⟩
      have HK := Lib.hid (kAt_board (Nat.zero_le _) hn)
      have HI := Lib.hid (show 1 + n < 88 by omega)
      have g3 : (0 : Int) ≤ (n : Int) := by omega
      have g4 : (n : Int) < 64 := by omega
      clear k0 k1
      cases g1 : (x == 0)
      · have g5 : (x != 0) = true := by simp [bne, g1]
        cases g2 : pcB x
        · have HS := Lib.hid (putP_no (p := p) (show putB (n : Int) x = false by simp [putB, mayB, g1, g2]))
          go_enter Tryd.func21, Tryd.ntmps21
          go_wp2_with (first
              | (refine step_box rfl _ rfl p rfl ?_; intro b3 w3 N3 R3; have HN3 := Lib.hid N3; have HR3 := Lib.hid R3; clear N3 R3)
              | (refine step_alloc rfl rfl ?_; intro b6 w6 N6 R6; have HN6 := Lib.hid N6; have HR6 := Lib.hid R6; have HR3b := Lib.hid (N6.row HR3.out); have HD := Lib.hid (N6.ne HR3.out); have HB6 := Lib.hid (below_on HN3.out.below N6.below); have HG := Lib.hid (show w.heap.size ≤ b3 ∧ w.heap.size ≤ b6 by have := HN3.out.at_; have := N6.at_; have := HN3.out.size; omega); clear N6 R6))
          refine (ris_any _ _).mono ?_; rintro e w7 ⟨rfl, hb⟩; rw [g2]; have HR3b := Lib.hid (HR3b.out.later hb); have HR6 := Lib.hid (HR6.out.later hb); have HB6 := Lib.hid (below_on HB6.out hb); clear hb
          go_wp2_with (first
              | (refine step_load rfl _ rfl _ rfl p HR3b.out ?_)
              | (refine step_store rfl _ _ rfl _ rfl _ _ rfl HR6.out ?_; intro w8 U8 R8; have HU8 := Lib.hid U8; have HR8 := Lib.hid R8; clear U8 R8))
          refine bodyPost_ret (v := .agg (posA p)) (results_pos rfl _ _ _ _ rfl HR8.out) rfl ⟨by rw [HS.out], ?_⟩
          exact HB6.out.trans (HU8.out.below HG.out.2)
        · have HS := Lib.hid (putP_yes (p := p) (show putB (n : Int) x = true by simp [putB, mayB, g0, g2]))
          go_enter Tryd.func21, Tryd.ntmps21
          go_wp2_with (first
              | (refine step_box rfl _ rfl p rfl ?_; intro b3 w3 N3 R3; have HN3 := Lib.hid N3; have HR3 := Lib.hid R3; clear N3 R3)
              | (refine step_alloc rfl rfl ?_; intro b6 w6 N6 R6; have HN6 := Lib.hid N6; have HR6 := Lib.hid R6; have HR3b := Lib.hid (N6.row HR3.out); have HD := Lib.hid (N6.ne HR3.out); have HB6 := Lib.hid (below_on HN3.out.below N6.below); have HG := Lib.hid (show w.heap.size ≤ b3 ∧ w.heap.size ≤ b6 by have := HN3.out.at_; have := N6.at_; have := HN3.out.size; omega); clear N6 R6))
          refine (ris_any _ _).mono ?_; rintro e w7 ⟨rfl, hb⟩; rw [g2]; have HR3b := Lib.hid (HR3b.out.later hb); have HR6 := Lib.hid (HR6.out.later hb); have HB6 := Lib.hid (below_on HB6.out hb); clear hb
          go_wp2_with (first
              | (refine step_cell rfl 5 _ _ rfl _ _ rfl _ _ rfl p HR3b.out HI.out HK.out size5 ?_; intro w9 U9 R9; have HU9 := Lib.hid U9; have HR9 := Lib.hid R9; have HR6b := Lib.hid (HR6.out.apart U9 (Ne.symm HD.out)); clear U9 R9)
              | (refine step_load rfl _ rfl _ rfl _ HR9.out ?_)
              | (refine step_store rfl _ _ rfl _ rfl _ _ rfl HR6b.out ?_; intro w8 U8 R8; have HU8 := Lib.hid U8; have HR8 := Lib.hid R8; clear U8 R8))
          refine bodyPost_ret (v := .agg (posA (upd p (1 + n) x))) (results_pos rfl _ _ _ _ rfl HR8.out) rfl ⟨by rw [HS.out], ?_⟩
          exact HB6.out.trans ((HU9.out.below HG.out.1).trans (HU8.out.below HG.out.2))
      · have g5 : (x != 0) = false := by simp [bne, g1]
        have HS := Lib.hid (putP_yes (p := p) (show putB (n : Int) x = true by simp only [putB, mayB, g0, g1]; rfl))
        go_enter Tryd.func21, Tryd.ntmps21
        go_wp2_with (first
            | (refine step_box rfl _ rfl p rfl ?_; intro b3 w3 N3 R3; have HN3 := Lib.hid N3; have HR3 := Lib.hid R3; clear N3 R3)
            | (refine step_alloc rfl rfl ?_; intro b6 w6 N6 R6; have HN6 := Lib.hid N6; have HR6 := Lib.hid R6; have HR3b := Lib.hid (N6.row HR3.out); have HD := Lib.hid (N6.ne HR3.out); have HB6 := Lib.hid (below_on HN3.out.below N6.below); have HG := Lib.hid (show w.heap.size ≤ b3 ∧ w.heap.size ≤ b6 by have := HN3.out.at_; have := N6.at_; have := HN3.out.size; omega); clear N6 R6)
            | (refine step_cell rfl 5 _ _ rfl _ _ rfl _ _ rfl p HR3b.out HI.out HK.out size5 ?_; intro w9 U9 R9; have HU9 := Lib.hid U9; have HR9 := Lib.hid R9; have HR6b := Lib.hid (HR6.out.apart U9 (Ne.symm HD.out)); clear U9 R9)
            | (refine step_load rfl _ rfl _ rfl _ HR9.out ?_)
            | (refine step_store rfl _ _ rfl _ rfl _ _ rfl HR6b.out ?_; intro w8 U8 R8; have HU8 := Lib.hid U8; have HR8 := Lib.hid R8; clear U8 R8))
        refine bodyPost_ret (v := .agg (posA (upd p (1 + n) x))) (results_pos rfl _ _ _ _ rfl HR8.out) rfl ⟨by rw [HS.out], ?_⟩
        exact HB6.out.trans ((HU9.out.below HG.out.1).trans (HU8.out.below HG.out.2))
end Go.Proofs.YtgodoipmnenohaaDoor
