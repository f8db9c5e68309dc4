/-
  Contract of the program's race.
-/
import Derived.Test.YtjbfjohgfbipgaaGreatDoorRuHorde
namespace Go.Proofs.YtjbfjohgfbipgaaGreatDoor
open Go.RowKit
set_option linter.unusedVariables false
set_option linter.unusedSimpArgs false
def haR (k : Nat) : Nat → Int := fun j => (([2, 3, 4, 5 + k].getD j 0 : Nat) : Int)
def haN (k j : Nat) : Nat := [2, 3, 4, 5 + k].getD j 0
def raJ (p : Nat → Int) (k : Nat) : Nat → Nat → Int
  | 0 => p
  | j + 1 => upd (upd (raJ p k j) (1 + (8 * k + (4 + j))) ((haN k j : Nat) : Int)) (1 + (8 * k + (3 - j))) ((8 + haN k j : Nat) : Int)
def raK (p : Nat → Int) : Nat → Nat → Int
  | 0 => p
  | k + 1 => raJ (raK p k) k 4
/-- The first position of racing. -/
def raP : Nat → Int := raK (bareP 8) 2
def haA : Array Value := #[.int .u8 2, .int .u8 3, .int .u8 4, .int .u8 5, .int .u8 2, .int .u8 3, .int .u8 4, .int .u8 6]
theorem ha0 : haA.extract (0 * 4) (0 * 4 + 4) = arrA 4 .u8 (haR 0) := by kernel_rfl
theorem ha1 : haA.extract (1 * 4) (1 * 4 + 4) = arrA 4 .u8 (haR 1) := by kernel_rfl
theorem ha_half (k : Nat) (h : k < 2) : haA.extract (k * 4) (k * 4 + 4) = arrA 4 .u8 (haR k) := by
  match k, h with
  | 0, _ => exact ha0
  | 1, _ => exact ha1
theorem ha_le (k j : Nat) (hk : k < 2) (hj : j < 4) : haN k j ≤ 7 := by
  have key : ∀ k : Fin 2, ∀ j : Fin 4, haN k.val j.val ≤ 7 := by decide +kernel
  exact key ⟨k, hk⟩ ⟨j, hj⟩
theorem size69 : (Tryz.prog.info? 95).map (·.size) = some 8 := by kernel_rfl
theorem size68 : (Tryz.prog.info? 94).map (·.size) = some 4 := by kernel_rfl
theorem zero69 : (Tryz.prog.info? 95).map (fun i => (i.zero, i.size)) = some (some (.agg (arrA 8 .u8 zeroP)), (arrA 8 .u8 zeroP).size) := by kernel_rfl
theorem zero68 : (Tryz.prog.info? 94).map (fun i => (i.zero, i.size)) = some (some (.agg (arrA 4 .u8 zeroP)), 4) := by kernel_rfl
theorem ha_one : haA.all (·.oneCell') = true := by simp [haA, Value.oneCell']
set_option maxRecDepth 100000 in
set_option maxHeartbeats 2000000 in
theorem race_any (w : World) : Calls Tryz.prog 48 #[] w (PosL raP w) := by
  go_enter Tryz.func48, Tryz.ntmps48
  go_wp2_with (refine step_alloc rfl rfl ?_; intro b0 w1 N R; have HG0 := Lib.hid (Nat.le_of_eq N.at_.symm); have HR0 := Lib.hid R; have HB := Lib.hid N.below; clear N R)
  refine (bare_any 8 _).mono ?_; rintro e wn ⟨rfl, hb⟩; have HR0 := Lib.hid (HR0.out.later hb); have HB := Lib.hid (below_on HB.out hb); clear hb
  obtain ⟨pb, Hpb⟩ : ∃ q, Hid (bareP 8 = q) := ⟨_, Lib.hid rfl⟩
  have HE := Lib.hid (show raP = raK pb 2 by unfold raP; rw [Hpb.out])
  rw [Hpb.out]
  go_wp2_with (first
    | (refine step_alloc (op := ⟨some 1, _, _, _, _, _⟩) rfl rfl ?_; intro b1 w1 N R; have HG1 := Lib.hid (show w.heap.size ≤ b1 by have := N.at_; have := HB.out.size; omega); have HD := Lib.hid (show b0 ≠ b1 by have := N.at_; have := HR0.out.lt; omega); have HR0 := Lib.hid (HR0.out.later N.below); have HR1 := Lib.hid R; have HB := Lib.hid (below_on HB.out N.below); clear N R)
    | (refine step_store rfl _ _ rfl b1 rfl zeroP pb rfl ?_ ?_; exact HR1.out; intro w2 U R; have HR0 := Lib.hid (HR0.out.apart U HD.out); have HR1 := Lib.hid R; have HB := Lib.hid (HB.out.trans (U.below HG1.out)); clear U R)
    | (refine blk_alloc rfl 95 rfl (arrA 8 .u8 zeroP) zero69 ?_; intro b2 w1 N R; have HG2 := Lib.hid (show w.heap.size ≤ b2 by have := N.at_; have := HB.out.size; omega); have HD02 := Lib.hid (show b0 ≠ b2 by have := N.at_; have := HR0.out.lt; omega); have HD12 := Lib.hid (show b1 ≠ b2 by have := N.at_; have := HR1.out.lt; omega); have HR0 := Lib.hid (HR0.out.later N.below); have HR1 := Lib.hid (HR1.out.later N.below); have HR2 := Lib.hid R; have HB := Lib.hid (below_on HB.out N.below); clear N R)
    | (refine blk_store rfl 95 _ _ rfl b2 rfl (arrA 8 .u8 zeroP) haA rfl ?_ (by rw [arrA_size]; rfl) ha_one size69 ?_; exact HR2.out; intro w2 U R; have HR0 := Lib.hid (HR0.out.apart U HD02.out); have HR1 := Lib.hid (HR1.out.apart U HD12.out); have HR2 := Lib.hid R; have HB := Lib.hid (HB.out.trans (U.below HG2.out)); clear U R)
    | (refine blk_load rfl 95 _ rfl b2 rfl haA ?_ _ Tryz.underlying95 rfl size69 ?_; exact HR2.out))
  go_loopw [12] (fun i wr => ∃ k : Nat, k ≤ 2 ∧ i = .int .i64 (k : Int) ∧ Row wr b1 (raK pb k) ∧ Row wr b0 zeroP ∧ Below w.heap.size w wr) (fun i _ => 2 - (intOf i).toNat)
  case atStart => exact ⟨0, by omega, rfl, HR1.out, HR0.out, HB.out⟩
  case round =>
    clear HR1 HR0 HR2 HB
    obtain ⟨k, hk, rfl, h1, h0, hb⟩ := hrel
    have HR1 := Lib.hid h1
    have HR0 := Lib.hid h0
    have HB := Lib.hid hb
    clear h1 h0 hb
    by_cases hlt : k < 2
    · obtain ⟨p0, Hp0⟩ : ∃ q, Hid (raK pb k = q) := ⟨_, Lib.hid rfl⟩
      have HN0 := Lib.hid (show raK pb (k + 1) = raJ p0 k 4 by rw [← Hp0.out]; rfl)
      rw [Hp0.out] at HR1
      have HH := Lib.hid (ha_half k hlt)
      go_wp2_with (first
        | (refine step_indexA rfl 95 94 _ _ rfl 2 4 haA rfl .i64 k rfl hlt Tryz.underlying95 Tryz.underlying94 rfl size68 (arrA 4 .u8 (haR k)) HH.out ?_)
        | (refine arr_alloc rfl 94 rfl 4 .u8 zero68 ?_; intro b4 w1 N R; have HG4 := Lib.hid (show w.heap.size ≤ b4 by have := N.at_; have := HB.out.size; omega); have HD04 := Lib.hid (show b0 ≠ b4 by have := N.at_; have := HR0.out.lt; omega); have HD14 := Lib.hid (show b1 ≠ b4 by have := N.at_; have := HR1.out.lt; omega); have HR0 := Lib.hid (HR0.out.later N.below); have HR1 := Lib.hid (HR1.out.later N.below); have HR4 := Lib.hid R; have HB := Lib.hid (below_on HB.out N.below); clear N R)
        | (refine arr_store rfl 94 _ _ rfl b4 rfl 4 .u8 zeroP (haR k) rfl ?_ size68 ?_; exact HR4.out; intro w2 U R; have HR0 := Lib.hid (HR0.out.apart U HD04.out); have HR1 := Lib.hid (HR1.out.apart U HD14.out); have HR4 := Lib.hid R; have HB := Lib.hid (HB.out.trans (U.below HG4.out)); clear U R)
        | (refine arr_load rfl 94 _ rfl b4 rfl 4 .u8 (haR k) ?_ _ Tryz.underlying94 rfl size68 ?_; exact HR4.out))
      go_loopw [17] (fun i wr => ∃ j : Nat, j ≤ 4 ∧ i = .int .i64 (j : Int) ∧ Row wr b1 (raJ p0 k j) ∧ Row wr b0 zeroP ∧ Below w.heap.size w wr) (fun i _ => 4 - (intOf i).toNat)
      case atStart => exact ⟨0, by omega, rfl, HR1.out, HR0.out, HB.out⟩
      case round =>
        clear HR1 HR0 HR4 HB
        obtain ⟨j, hj, rfl, h1, h0, hb⟩ := hrel
        have HR1 := Lib.hid h1
        have HR0 := Lib.hid h0
        have HB := Lib.hid hb
        clear h1 h0 hb
        by_cases hlt' : j < 4
        · obtain ⟨p, Hp⟩ : ∃ q, Hid (raJ p0 k j = q) := ⟨_, Lib.hid rfl⟩
          obtain ⟨x, Hx⟩ : ∃ x, Hid (haN k j = x) := ⟨_, Lib.hid rfl⟩
          have lx : x ≤ 7 := by rw [← Hx.out]; exact ha_le k j hlt hlt'
          have HY := Lib.hid (show haR k j = (x : Int) by rw [← Hx.out]; rfl)
          obtain ⟨s1, Hs1⟩ : ∃ s, Hid (8 * k + (4 + j) = s) := ⟨_, Lib.hid rfl⟩
          obtain ⟨s2, Hs2⟩ : ∃ s, Hid (8 * k + (3 - j) = s) := ⟨_, Lib.hid rfl⟩
          obtain ⟨m1, Hm1⟩ : ∃ s, Hid (8 * 0 + x = s) := ⟨_, Lib.hid rfl⟩
          obtain ⟨m2, Hm2⟩ : ∃ s, Hid (8 * 1 + x = s) := ⟨_, Lib.hid rfl⟩
          have l1 : s1 < 64 := by have := Hs1.out; omega
          have l2 : s2 < 64 := by have := Hs2.out; omega
          have l3 : (s1 : Int) < 64 := by omega
          have l4 : (s2 : Int) < 64 := by omega
          have HK1 := Lib.hid (kAt_board (Nat.zero_le _) l1)
          have HK2 := Lib.hid (kAt_board (Nat.zero_le _) l2)
          have HN : Hid (raJ p0 k (j + 1) = upd (upd p (1 + s1) (m1 : Int)) (1 + s2) (m2 : Int)) := Lib.hid (by
            show upd (upd _ _ _) _ _ = _
            rw [Hp.out, Hs1.out, Hs2.out, Hx.out, show x = m1 by have := Hm1.out; omega, show 8 + m1 = m2 by have := Hm1.out; have := Hm2.out; omega])
          rw [Hp.out] at HR1
          go_wp2_with (refine arr_index rfl 94 5 _ _ rfl 4 .u8 (haR k) rfl j rfl hlt' Tryz.underlying94 Tryz.underlying5 size5 ?_; rw [HY.out])
          refine (square_int (4 + j) k _ _ _ (by omega) (by omega) (by omega) rfl).mono ?_; rintro e wn ⟨rfl, rfl⟩; rw [Hs1.out]
          go_wp2_with fail
          refine (man_int 0 x 0 _ _ (by omega) (by omega) rfl rfl).mono ?_; rintro e wn ⟨rfl, rfl⟩; rw [Hm1.out]
          go_wp2_with (refine step_cell rfl 5 _ _ rfl b1 (1 + s1) rfl .u8 (m1 : Int) rfl p ?_ (by omega) HK1.out size5 ?_; exact HR1.out; intro w2 U R; have HR0 := Lib.hid (HR0.out.apart U HD.out); have HR1 := Lib.hid R; have HB := Lib.hid (HB.out.trans (U.below HG1.out)); clear U R)
          refine (square_int (3 - j) k _ _ _ (by omega) (by omega) (by omega) rfl).mono ?_; rintro e wn ⟨rfl, rfl⟩; rw [Hs2.out]
          go_wp2_with fail
          refine (man_int 1 x 1 _ _ (by omega) (by omega) rfl rfl).mono ?_; rintro e wn ⟨rfl, rfl⟩; rw [Hm2.out]
          go_wp2_with (refine step_cell rfl 5 _ _ rfl b1 (1 + s2) rfl .u8 (m2 : Int) rfl (upd p (1 + s1) (m1 : Int)) ?_ (by omega) HK2.out size5 ?_; exact HR1.out; intro w2 U R; have HR0 := Lib.hid (HR0.out.apart U HD.out); have HR1 := Lib.hid R; have HB := Lib.hid (HB.out.trans (U.below HG1.out)); clear U R)
          go_roundw
          case rel => exact ⟨j + 1, by omega, by go_num, by rw [HN.out]; exact HR1.out, HR0.out, HB.out⟩
          case measure => simp [intOf]; omega
        · obtain rfl : j = 4 := by omega
          rw [← HN0.out] at HR1
          go_wp2_with fail
          go_roundw
          case rel => exact ⟨k + 1, by omega, by go_num, HR1.out, HR0.out, HB.out⟩
          case measure => simp [intOf]; omega
    · obtain rfl : k = 2 := by omega
      obtain ⟨q, Hq⟩ : ∃ q, Hid (raK pb 2 = q) := ⟨_, Lib.hid rfl⟩
      rw [Hq.out] at HR1
      go_wp2_with (first
        | (refine step_load rfl _ rfl b1 rfl q ?_ ?_; exact HR1.out)
        | (refine step_store rfl _ _ rfl b0 rfl zeroP q rfl ?_ ?_; exact HR0.out; intro w2 U R; have HR0 := Lib.hid R; have HB := Lib.hid (HB.out.trans (U.below HG0.out)); clear U R))
      refine bodyPost_ret (v := .agg (posA q)) (results_row rfl _ _ _ _ rfl HR0.out) rfl ⟨by rw [HE.out, Hq.out], HB.out⟩
end Go.Proofs.YtjbfjohgfbipgaaGreatDoor
