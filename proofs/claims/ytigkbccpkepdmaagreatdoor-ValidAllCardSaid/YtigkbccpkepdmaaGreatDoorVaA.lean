/-
 Contracts of layer 12's nearest, unless, other, firstOfHome, kingsOf, boardMayBe, filesMayBe, checksMayBe, args, clocks.
-/
import Derived.Test.YtigkbccpkepdmaaGreatDoorVaMath
import Derived.Lib.MinMax
import Derived.IntWalk
namespace Go.Proofs.YtigkbccpkepdmaaGreatDoor
open Go.RowKit
set_option linter.unusedVariables false
set_option linter.unusedSimpArgs false

def I64E (n : Int) (w : World) (e : Ending) (w' : World) : Prop := e = .returned (.int .i64 n) ∧ w = w'
theorem near_any (n m : Int) (w : World) : Calls Tryz.prog 24 #[.int .i64 n, .int .i64 m] w (I64E (nrZ n m) w) := by
 go_enter Tryz.func24, Tryz.ntmps24
 go_wp2
 go_ret
 exact ⟨rfl, rfl⟩
theorem unl_any (b : Bool) (e : Int) (w : World) : Calls Tryz.prog 42 #[.bool b, .int .i64 e] w (I64E (bif b then 0 else e) w) := by
 cases b
 ·go_enter Tryz.func42, Tryz.ntmps42
  go_wp2
  go_ret
  exact ⟨rfl, rfl⟩
 ·go_enter Tryz.func42, Tryz.ntmps42
  go_wp2
  go_ret
  exact ⟨rfl, rfl⟩
theorem voth_any (c : Nat) (hc : c < 2) (w : World) : Calls Tryz.prog 50 #[.int .u8 (c : Int)] w (fun e w' => e = .returned (.int .u8 (1 - (c : Int))) ∧ w = w') := by
 have h : c = 0 ∨ c = 1 := by omega
 rcases h with rfl | rfl
 all_goals
  go_enter Tryz.func50, Tryz.ntmps50
  go_wp2
  go_ret
  exact ⟨rfl, rfl⟩
theorem home_any (c : Nat) (hc : c < 2) (w : World) : Calls Tryz.prog 46 #[.int .u8 (c : Int)] w (I64E (56 * (c : Int)) w) := by
 have h : c = 0 ∨ c = 1 := by omega
 rcases h with rfl | rfl
 all_goals
  go_enter Tryz.func46, Tryz.ntmps46
  go_wp2
  go_ret
  exact ⟨rfl, rfl⟩
set_option maxRecDepth 100000 in
set_option maxHeartbeats 1000000 in
theorem kgs_any (p : Nat → Int) (c : Int) (w : World) (hp : FitP p) : Calls Tryz.prog 97 #[.agg (posA p), .int .u8 c] w (IntL (kgsZ p c) w) := by
 have HP := Lib.hid hp.at.bd
 clear hp
 have HB := Lib.hid (Below.refl w.heap.size w)
 go_enter Tryz.func97, Tryz.ntmps97
 go_wp2_with (first
   | (refine va_box rfl _ rfl p rfl ?_; intro b1 w1 N R; have HB := Lib.hid (HB.out.trans (N.below.mono HB.out.size)); have HR := Lib.hid R; clear N R)
   | (refine va_in rfl _ rfl b1 rfl p HR.out ?_)
   | (go_at_call 119; refine (count_set p c 6 _ HP.out).mono ?_; rintro e w3 ⟨rfl, hb⟩; have HR := Lib.hid (HR.out.later hb); have HB := Lib.hid (below_on HB.out hb); clear hb))
 go_ret
 exact ⟨rfl, HB.out⟩
theorem va_pick {ops : Array Oper} {rest : List Oper} {op : Oper} {a : Act} {w : World} {Q : Exit → Act → World → Prop} (hw : Region.wanted op (yielded ops a.tmps) = true) (T e : TypeId) (x y : Operand) (ho : op.op = .index T x y) (n : Nat) (K : IntKind) (p : Nat → Int) (hx : a.eval x = .agg (arrA n K p)) (k : Nat) (hy : a.eval y = .int .i64 (k : Int)) (hk : k < n)
  (hu : Tryz.prog.underlying T = some (.array n e)) (he : Tryz.prog.underlying e = some (.int K)) (hs : (Tryz.prog.info? e).map (·.size) = some 1) (v : Int) (hv : p k = v)
  (h : wpList Tryz.prog ops Q rest (a.put op.dst (.int K v)) w) : wpList Tryz.prog ops Q (op :: rest) a w :=
 arr_index hw T e x y ho n K p hx k hy hk hu he hs (by rw [hv]; exact h)
theorem arr_cut (n m a : Nat) (K : IntKind) (q : Nat → Int) (h : a + m ≤ n) : (arrA n K q).extract a (a + m) = arrA m K (fun j => q (a + j)) := by
 apply Array.ext_getElem?
 intro i
 rw [Array.getElem?_extract]
 by_cases hi : i < m
 ·rw [if_pos (by rw [arrA_size]; omega), arrA_get _ _ _ _ (by omega), arrA_get _ _ _ _ hi]
 ·rw [if_neg (by rw [arrA_size]; omega), Array.getElem?_eq_none (by rw [arrA_size]; omega)]
theorem size22b : (Tryz.prog.info? 22).map (·.size) = some 64 := by kernel_rfl
theorem size22c : (Tryz.prog.info? 28).map (·.size) = some 4 := by kernel_rfl
theorem sizeI8x2 : (Tryz.prog.info? 27).map (·.size) = some 2 := by kernel_rfl
theorem zeroI8x2 : (Tryz.prog.info? 27).map (fun i => (i.zero, i.size)) = some (some (.agg (arrA 2 .i8 zeroP)), 2) := by kernel_rfl
theorem sizeI8 : (Tryz.prog.info? 26).map (·.size) = some 1 := by kernel_rfl
theorem sizeU8a : (Tryz.prog.info? 5).map (·.size) = some 1 := by kernel_rfl
set_option maxRecDepth 100000 in
set_option maxHeartbeats 1000000 in
theorem bdm_any (p : Nat → Int) (w : World) (hp : FitP p) : Calls Tryz.prog 43 #[.agg (posA p)] w (BoL (lawB p 64) w) := by
 have HP := Lib.hid hp.at.bd
 clear hp
 have HB := Lib.hid (Below.refl w.heap.size w)
 go_enter Tryz.func43, Tryz.ntmps43
 go_wp2_with (first
   | (refine va_box rfl _ rfl p rfl ?_; intro b1 w1 N R; have HB := Lib.hid (HB.out.trans (N.below.mono HB.out.size)); have HR := Lib.hid R; clear N R)
   | (refine va_arr rfl 22 _ rfl b1 1 64 rfl .u8 p HR.out (by decide) (fun j hj => kAt_board (by omega) hj) _ Tryz.underlying22 rfl size22b ?_))
 go_loop [8] (fun i => ∃ k : Nat, k ≤ 64 ∧ i = .int .i64 (k : Int) ∧ Hid (lawB p k = true)) (fun i => 64 - (intOf i).toNat)
 case atStart => exact ⟨0, by omega, rfl, Lib.hid rfl⟩
 case round =>
  obtain ⟨k, hk, rfl, Hi⟩ := hrel
  by_cases hlt : k < 64
  ·have gk : decide ((k : Int) < 64) = true := decide_eq_true (by omega)
   have hx := HP.out k hlt
   obtain ⟨x, HX⟩ : ∃ x, Hid (p (1 + k) = x) := ⟨_, Lib.hid rfl⟩
   rw [HX.out] at hx
   obtain ⟨x0, x1⟩ := hx
   have HX0 := Lib.hid x0
   have HX1 := Lib.hid x1
   have HS := Lib.hid (show lawB p (k + 1) = (x == 0 || pcB x) by rw [lawB_succ, Hi.out, HX.out]; rfl)
   have Hlt := Lib.hid hlt
   cases g0 : (x != 0)
   ·have HE := Lib.hid (show lawB p (k + 1) = true by rw [HS.out]; simp only [bne, Bool.not_eq_false'] at g0; rw [g0]; rfl)
    go_wp2_with (first
     | (refine va_pick rfl 22 5 _ _ rfl 64 .u8 (fun j => p (1 + j)) rfl k rfl hlt Tryz.underlying22 Tryz.underlying5 sizeU8a _ HX.out ?_))
    go_round
    case rel => exact ⟨k + 1, by have := Hlt.out; omega, by go_num, HE⟩
    case measure => simp [intOf]; have := Hlt.out; omega
   ·have HE0 : (x == 0) = false := by rw [bne_iff_ne] at g0; rw [beq_eq_false_iff_ne]; exact g0
    have HZ := Lib.hid (show lawB p (k + 1) = pcB x by rw [HS.out, HE0]; rfl)
    have HF := Lib.hid (fun h : pcB x = false => lawB_no (HZ.out.trans h) 64 (by have := Hlt.out; omega))
    clear HE0
    cases hpc : pcB x
    ·have HQ := Lib.hid (HF.out hpc)
     have HPc := Lib.hid hpc
     clear hpc
     go_wp2_with (first
      | (refine va_pick rfl 22 5 _ _ rfl 64 .u8 (fun j => p (1 + j)) rfl k rfl hlt Tryz.underlying22 Tryz.underlying5 sizeU8a _ HX.out ?_)
      | (go_at_call 72; refine (is_any x _ HX0.out HX1.out).mono ?_; rintro e w3 ⟨rfl, rfl⟩; rw [HPc.out]))
     go_ret
     exact ⟨by rw [HQ.out]; rfl, HB.out⟩
    ·have HE := Lib.hid (HZ.out.trans hpc)
     have HPc := Lib.hid hpc
     clear hpc
     go_wp2_with (first
      | (refine va_pick rfl 22 5 _ _ rfl 64 .u8 (fun j => p (1 + j)) rfl k rfl hlt Tryz.underlying22 Tryz.underlying5 sizeU8a _ HX.out ?_)
      | (go_at_call 72; refine (is_any x _ HX0.out HX1.out).mono ?_; rintro e w3 ⟨rfl, rfl⟩; rw [HPc.out]))
     go_round
     case rel => exact ⟨k + 1, by have := Hlt.out; omega, by go_num, HE⟩
     case measure => simp [intOf]; have := Hlt.out; omega
  ·obtain rfl : k = 64 := by omega
   go_wp2_with fail
   go_ret
   exact ⟨by rw [Hi.out]; rfl, HB.out⟩
set_option maxRecDepth 100000 in
set_option maxHeartbeats 1000000 in
theorem flm_any (p : Nat → Int) (w : World) : Calls Tryz.prog 44 #[.agg (posA p)] w (BoL (filB p 4) w) := by
 have HB := Lib.hid (Below.refl w.heap.size w)
 go_enter Tryz.func44, Tryz.ntmps44
 go_wp2_with (first
   | (refine va_box rfl _ rfl p rfl ?_; intro b1 w1 N R; have HB := Lib.hid (HB.out.trans (N.below.mono HB.out.size)); have HR := Lib.hid R; clear N R)
   | (refine va_arr rfl 28 _ rfl b1 79 4 rfl .i8 p HR.out (by decide) (fun j hj => k_i8 (by omega) (by omega)) _ Tryz.underlying28 rfl size22c ?_))
 go_loopw [10] (fun i wr => ∃ d : Nat, d ≤ 2 ∧ i = .int .i64 (d : Int) ∧ filB p (d * 2) = true ∧ Below w.heap.size w wr) (fun i _ => 2 - (intOf i).toNat)
 case atStart => exact ⟨0, by omega, rfl, rfl, HB.out⟩
 case round =>
  obtain ⟨d, hd, rfl, hf, hbw⟩ := hrel
  have HB := Lib.hid hbw
  have HF := Lib.hid hf
  clear hf hbw
  by_cases hlt : d < 2
  ·have gd : decide ((d : Int) < 2) = true := decide_eq_true (by omega)
   have Hlt := Lib.hid hlt
   go_wp2_with (first
    | (refine step_indexA rfl 28 27 _ _ rfl 2 2 (arrA 4 .i8 fun j => p (79 + j)) rfl .i64 d rfl hlt Tryz.underlying28 Tryz.underlying27 rfl sizeI8x2 (arrA 2 .i8 fun j => p (79 + (d * 2 + j))) (arr_cut 4 2 (d * 2) .i8 (fun j => p (79 + j)) (by omega)) ?_)
    | (refine arr_alloc rfl 27 rfl 2 .i8 zeroI8x2 ?_; intro b4 w6 N R; have HG4 := Lib.hid (show w.heap.size ≤ b4 by rw [N.at_]; exact HB.out.size); have HB := Lib.hid (HB.out.trans (N.below.mono HB.out.size)); have HM := Lib.hid R; clear N R)
    | (refine arr_store rfl 27 _ _ rfl b4 rfl 2 .i8 zeroP (fun j => p (79 + (d * 2 + j))) rfl ?_ sizeI8x2 ?_; exact HM.out; intro w7 U R; have HB := Lib.hid (HB.out.trans (U.below HG4.out)); have HM := Lib.hid R; clear U R)
    | (refine arr_load rfl 27 _ rfl b4 rfl 2 .i8 (fun j => p (79 + (d * 2 + j))) ?_ _ Tryz.underlying27 rfl sizeI8x2 ?_; exact HM.out))
   go_loop [14] (fun i => ∃ k : Nat, k ≤ 2 ∧ i = .int .i64 (k : Int) ∧ Hid (filB p (d * 2 + k) = true)) (fun i => 2 - (intOf i).toNat)
   case atStart => exact ⟨0, by omega, rfl, HF⟩
   case round =>
    obtain ⟨k, hk, rfl, Hi⟩ := hrel
    by_cases hk2 : k < 2
    ·have gk : decide ((k : Int) < 2) = true := decide_eq_true (by omega)
     obtain ⟨x, HX⟩ : ∃ x, Hid (p (79 + (d * 2 + k)) = x) := ⟨_, Lib.hid rfl⟩
     have HS := Lib.hid (show filB p (d * 2 + k + 1) = (decide (-1 ≤ x) && decide (x < 8)) by rw [filB_succ, Hi.out, HX.out]; rfl)
     have HN := Lib.hid (fun h : filB p (d * 2 + k + 1) = false => filB_no h 4 (by omega))
     have Hk2 := Lib.hid hk2
     cases g1 : decide (x < -1)
     ·cases g2 : decide (8 ≤ x)
      ·have HE := Lib.hid (show filB p (d * 2 + k + 1) = true by
        rw [HS.out, decide_eq_true (show -1 ≤ x by have := of_decide_eq_false g1; omega), decide_eq_true (show x < 8 by have := of_decide_eq_false g2; omega)]; rfl)
       go_wp2_with (first
        | (refine va_pick rfl 27 26 _ _ rfl 2 .i8 (fun j => p (79 + (d * 2 + j))) rfl k rfl hk2 Tryz.underlying27 Tryz.underlying26 sizeI8 _ HX.out ?_))
       go_round
       case rel => exact ⟨k + 1, by have := Hk2.out; omega, by go_num, HE⟩
       case measure => simp [intOf]; have := Hk2.out; omega
      ·have HQ := Lib.hid (HN.out (by rw [HS.out, show decide (x < 8) = false from decide_eq_false (by have := of_decide_eq_true g2; omega), Bool.and_false]))
       go_wp2_with (first
        | (refine va_pick rfl 27 26 _ _ rfl 2 .i8 (fun j => p (79 + (d * 2 + j))) rfl k rfl hk2 Tryz.underlying27 Tryz.underlying26 sizeI8 _ HX.out ?_))
       go_ret
       exact ⟨by rw [HQ.out]; rfl, HB.out⟩
     ·have HQ := Lib.hid (HN.out (by rw [HS.out, show decide (-1 ≤ x) = false from decide_eq_false (by have := of_decide_eq_true g1; omega)]; rfl))
      go_wp2_with (first
       | (refine va_pick rfl 27 26 _ _ rfl 2 .i8 (fun j => p (79 + (d * 2 + j))) rfl k rfl hk2 Tryz.underlying27 Tryz.underlying26 sizeI8 _ HX.out ?_))
      go_ret
      exact ⟨by rw [HQ.out]; rfl, HB.out⟩
    ·obtain rfl : k = 2 := by omega
     go_wp2_with fail
     go_roundw
     case rel => exact ⟨d + 1, by have := Hlt.out; omega, by go_num, by rw [show (d + 1) * 2 = d * 2 + 2 by omega]; exact Hi.out, HB.out⟩
     case measure => simp [intOf]; have := Hlt.out; omega
  ·obtain rfl : d = 2 := by omega
   go_wp2_with fail
   go_ret
   exact ⟨by rw [show filB p 4 = true from HF.out]; rfl, HB.out⟩
set_option maxRecDepth 100000 in
set_option maxHeartbeats 1000000 in
theorem ckm_0 (p : Nat → Int) (w : World) (h0 : (p 0 == 5) = false) : Calls Tryz.prog 45 #[.agg (posA p)] w (BoL (ckB p) w) := by
 have HB := Lib.hid (Below.refl w.heap.size w)
 have HS := Lib.hid (show ckB p = decide (max (p 84) (p 85) ≤ 0) by unfold ckB mckZ; rw [h0]; rfl)
 go_enter Tryz.func45, Tryz.ntmps45
 go_wp2_with (first
   | (refine va_box rfl _ rfl p rfl ?_; intro b1 w1 N R; have HB := Lib.hid (HB.out.trans (N.below.mono HB.out.size)); have HR := Lib.hid R; clear N R)
   | (refine step_get rfl 5 _ rfl b1 (0) rfl Tryz.underlying5 rfl (.int .u8 (p 0)) ?_ ?_; exact HR.out.cell (0) (by decide))
   | (refine step_get rfl 5 _ rfl b1 (84) rfl Tryz.underlying5 rfl (.int .u8 (p 84)) ?_ ?_; exact HR.out.cell (84) (by decide))
   | (refine step_get rfl 5 _ rfl b1 (85) rfl Tryz.underlying5 rfl (.int .u8 (p 85)) ?_ ?_; exact HR.out.cell (85) (by decide)))
 go_ret
 exact ⟨by (rw [HS.out]; try rfl), HB.out⟩
set_option maxRecDepth 100000 in
set_option maxHeartbeats 1000000 in
theorem ckm_1 (p : Nat → Int) (w : World) (h0 : (p 0 == 5) = true) : Calls Tryz.prog 45 #[.agg (posA p)] w (BoL (ckB p) w) := by
 have HB := Lib.hid (Below.refl w.heap.size w)
 have HS := Lib.hid (show ckB p = decide (max (p 84) (p 85) ≤ 3) by unfold ckB mckZ; rw [h0]; rfl)
 go_enter Tryz.func45, Tryz.ntmps45
 go_wp2_with (first
   | (refine va_box rfl _ rfl p rfl ?_; intro b1 w1 N R; have HB := Lib.hid (HB.out.trans (N.below.mono HB.out.size)); have HR := Lib.hid R; clear N R)
   | (refine step_get rfl 5 _ rfl b1 (0) rfl Tryz.underlying5 rfl (.int .u8 (p 0)) ?_ ?_; exact HR.out.cell (0) (by decide))
   | (refine step_get rfl 5 _ rfl b1 (84) rfl Tryz.underlying5 rfl (.int .u8 (p 84)) ?_ ?_; exact HR.out.cell (84) (by decide))
   | (refine step_get rfl 5 _ rfl b1 (85) rfl Tryz.underlying5 rfl (.int .u8 (p 85)) ?_ ?_; exact HR.out.cell (85) (by decide)))
 go_ret
 exact ⟨by (rw [HS.out]; try rfl), HB.out⟩
theorem ckm_any (p : Nat → Int) (w : World) : Calls Tryz.prog 45 #[.agg (posA p)] w (BoL (ckB p) w) := by
 cases h0 : (p 0 == 5)
 ·exact ckm_0 p w h0
 ·exact ckm_1 p w h0
set_option maxRecDepth 100000 in
set_option maxHeartbeats 1000000 in
theorem arg_0 (p : Nat → Int) (w : World) (hp : FitP p) (h0 : decide (p 0 < 9) = false) : Calls Tryz.prog 21 #[.agg (posA p)] w (IntL (anZ p 0) w) := by
 have HP := Lib.hid hp
 have HB := Lib.hid (Below.refl w.heap.size w)
 have HS := Lib.hid (show anZ p 0 = 2 by unfold anZ okN argB; rw [h0]; rfl)
 have HLive := Lib.hid trivial
 clear hp
 go_enter Tryz.func21, Tryz.ntmps21
 go_wp2_with (first
   | (refine va_box rfl _ rfl p rfl ?_; intro b1 w1 N R; have HB := Lib.hid (HB.out.trans (N.below.mono HB.out.size)); have HR := Lib.hid R; clear N R)
   | (refine step_get rfl 5 _ rfl b1 (0) rfl Tryz.underlying5 rfl (.int .u8 (p 0)) ?_ ?_; exact HR.out.cell (0) (by decide))
   | (go_at_call 42; refine (unl_any _ _ _).mono ?_; rintro e w9 ⟨rfl, rfl⟩))
 go_ret
 exact ⟨by (rw [HS.out]; try rfl), HB.out⟩
set_option maxRecDepth 100000 in
set_option maxHeartbeats 1000000 in
theorem arg_1 (p : Nat → Int) (w : World) (hp : FitP p) (h0 : decide (p 0 < 9) = true) (h1 : decide (p 78 ≤ 1) = false) : Calls Tryz.prog 21 #[.agg (posA p)] w (IntL (anZ p 0) w) := by
 have HP := Lib.hid hp
 have HB := Lib.hid (Below.refl w.heap.size w)
 have HS := Lib.hid (show anZ p 0 = 2 by unfold anZ okN argB; rw [h0, h1]; rfl)
 have HLive := Lib.hid trivial
 clear hp
 go_enter Tryz.func21, Tryz.ntmps21
 go_wp2_with (first
   | (refine va_box rfl _ rfl p rfl ?_; intro b1 w1 N R; have HB := Lib.hid (HB.out.trans (N.below.mono HB.out.size)); have HR := Lib.hid R; clear N R)
   | (refine step_get rfl 5 _ rfl b1 (0) rfl Tryz.underlying5 rfl (.int .u8 (p 0)) ?_ ?_; exact HR.out.cell (0) (by decide))
   | (refine step_get rfl 5 _ rfl b1 (78) rfl Tryz.underlying5 rfl (.int .u8 (p 78)) ?_ ?_; exact HR.out.cell (78) (by decide))
   | (go_at_call 42; refine (unl_any _ _ _).mono ?_; rintro e w9 ⟨rfl, rfl⟩))
 go_ret
 exact ⟨by (rw [HS.out]; try rfl), HB.out⟩
set_option maxRecDepth 100000 in
set_option maxHeartbeats 1000000 in
theorem arg_2 (p : Nat → Int) (w : World) (hp : FitP p) (h0 : decide (p 0 < 9) = true) (h1 : decide (p 78 ≤ 1) = true) (h2 : decide (-1 ≤ p 83) = false) : Calls Tryz.prog 21 #[.agg (posA p)] w (IntL (anZ p 0) w) := by
 have HP := Lib.hid hp
 have HB := Lib.hid (Below.refl w.heap.size w)
 have HS := Lib.hid (show anZ p 0 = 2 by unfold anZ okN argB; rw [h0, h1, h2]; rfl)
 have HLive := Lib.hid trivial
 clear hp
 go_enter Tryz.func21, Tryz.ntmps21
 go_wp2_with (first
   | (refine va_box rfl _ rfl p rfl ?_; intro b1 w1 N R; have HB := Lib.hid (HB.out.trans (N.below.mono HB.out.size)); have HR := Lib.hid R; clear N R)
   | (refine step_get rfl 5 _ rfl b1 (0) rfl Tryz.underlying5 rfl (.int .u8 (p 0)) ?_ ?_; exact HR.out.cell (0) (by decide))
   | (refine step_get rfl 5 _ rfl b1 (78) rfl Tryz.underlying5 rfl (.int .u8 (p 78)) ?_ ?_; exact HR.out.cell (78) (by decide))
   | (refine step_get rfl 26 _ rfl b1 (83) rfl Tryz.underlying26 rfl (.int .i8 (p 83)) ?_ ?_; exact HR.out.cell (83) (by decide))
   | (go_at_call 42; refine (unl_any _ _ _).mono ?_; rintro e w9 ⟨rfl, rfl⟩))
 go_ret
 exact ⟨by (rw [HS.out]; try rfl), HB.out⟩
set_option maxRecDepth 100000 in
set_option maxHeartbeats 1000000 in
theorem arg_3 (p : Nat → Int) (w : World) (hp : FitP p) (h0 : decide (p 0 < 9) = true) (h1 : decide (p 78 ≤ 1) = true) (h2 : decide (-1 ≤ p 83) = true) (h3 : decide (p 83 < 64) = false) : Calls Tryz.prog 21 #[.agg (posA p)] w (IntL (anZ p 0) w) := by
 have HP := Lib.hid hp
 have HB := Lib.hid (Below.refl w.heap.size w)
 have HS := Lib.hid (show anZ p 0 = 2 by unfold anZ okN argB; rw [h0, h1, h2, h3]; rfl)
 have HLive := Lib.hid trivial
 clear hp
 go_enter Tryz.func21, Tryz.ntmps21
 go_wp2_with (first
   | (refine va_box rfl _ rfl p rfl ?_; intro b1 w1 N R; have HB := Lib.hid (HB.out.trans (N.below.mono HB.out.size)); have HR := Lib.hid R; clear N R)
   | (refine step_get rfl 5 _ rfl b1 (0) rfl Tryz.underlying5 rfl (.int .u8 (p 0)) ?_ ?_; exact HR.out.cell (0) (by decide))
   | (refine step_get rfl 5 _ rfl b1 (78) rfl Tryz.underlying5 rfl (.int .u8 (p 78)) ?_ ?_; exact HR.out.cell (78) (by decide))
   | (refine step_get rfl 26 _ rfl b1 (83) rfl Tryz.underlying26 rfl (.int .i8 (p 83)) ?_ ?_; exact HR.out.cell (83) (by decide))
   | (go_at_call 42; refine (unl_any _ _ _).mono ?_; rintro e w9 ⟨rfl, rfl⟩))
 go_ret
 exact ⟨by (rw [HS.out]; try rfl), HB.out⟩
set_option maxRecDepth 100000 in
set_option maxHeartbeats 1000000 in
theorem arg_4 (p : Nat → Int) (w : World) (hp : FitP p) (h0 : decide (p 0 < 9) = true) (h1 : decide (p 78 ≤ 1) = true) (h2 : decide (-1 ≤ p 83) = true) (h3 : decide (p 83 < 64) = true) (h4 : lawB p 64 = false) : Calls Tryz.prog 21 #[.agg (posA p)] w (IntL (anZ p 0) w) := by
 have HP := Lib.hid hp
 have HB := Lib.hid (Below.refl w.heap.size w)
 have HS := Lib.hid (show anZ p 0 = 2 by unfold anZ okN argB; rw [h0, h1, h2, h3, h4]; rfl)
 have HQ4 := Lib.hid h4
 have HLive := Lib.hid trivial
 clear hp h4
 go_enter Tryz.func21, Tryz.ntmps21
 go_wp2_with (first
   | (refine va_box rfl _ rfl p rfl ?_; intro b1 w1 N R; have HB := Lib.hid (HB.out.trans (N.below.mono HB.out.size)); have HR := Lib.hid R; clear N R)
   | (refine step_get rfl 5 _ rfl b1 (0) rfl Tryz.underlying5 rfl (.int .u8 (p 0)) ?_ ?_; exact HR.out.cell (0) (by decide))
   | (refine step_get rfl 5 _ rfl b1 (78) rfl Tryz.underlying5 rfl (.int .u8 (p 78)) ?_ ?_; exact HR.out.cell (78) (by decide))
   | (refine step_get rfl 26 _ rfl b1 (83) rfl Tryz.underlying26 rfl (.int .i8 (p 83)) ?_ ?_; exact HR.out.cell (83) (by decide))
   | (refine va_load rfl _ rfl b1 rfl p HR.out ?_)
   | (go_at_call 43; refine (bdm_any p _ HP.out).mono ?_; rintro e w3 ⟨rfl, hb⟩; rw [HQ4.out]; have HR := Lib.hid (HR.out.later hb); have HB := Lib.hid (below_on HB.out hb); clear hb)
   | (go_at_call 42; refine (unl_any _ _ _).mono ?_; rintro e w9 ⟨rfl, rfl⟩))
 go_ret
 exact ⟨by (rw [HS.out]; try rfl), HB.out⟩
set_option maxRecDepth 100000 in
set_option maxHeartbeats 1000000 in
theorem arg_5 (p : Nat → Int) (w : World) (hp : FitP p) (h0 : decide (p 0 < 9) = true) (h1 : decide (p 78 ≤ 1) = true) (h2 : decide (-1 ≤ p 83) = true) (h3 : decide (p 83 < 64) = true) (h4 : lawB p 64 = true) (h5 : filB p 4 = false) : Calls Tryz.prog 21 #[.agg (posA p)] w (IntL (anZ p 0) w) := by
 have HP := Lib.hid hp
 have HB := Lib.hid (Below.refl w.heap.size w)
 have HS := Lib.hid (show anZ p 0 = 2 by unfold anZ okN argB; rw [h0, h1, h2, h3, h4, h5]; rfl)
 have HQ4 := Lib.hid h4
 have HQ5 := Lib.hid h5
 have HLive := Lib.hid trivial
 clear hp h4 h5
 go_enter Tryz.func21, Tryz.ntmps21
 go_wp2_with (first
   | (refine va_box rfl _ rfl p rfl ?_; intro b1 w1 N R; have HB := Lib.hid (HB.out.trans (N.below.mono HB.out.size)); have HR := Lib.hid R; clear N R)
   | (refine step_get rfl 5 _ rfl b1 (0) rfl Tryz.underlying5 rfl (.int .u8 (p 0)) ?_ ?_; exact HR.out.cell (0) (by decide))
   | (refine step_get rfl 5 _ rfl b1 (78) rfl Tryz.underlying5 rfl (.int .u8 (p 78)) ?_ ?_; exact HR.out.cell (78) (by decide))
   | (refine step_get rfl 26 _ rfl b1 (83) rfl Tryz.underlying26 rfl (.int .i8 (p 83)) ?_ ?_; exact HR.out.cell (83) (by decide))
   | (refine va_load rfl _ rfl b1 rfl p HR.out ?_)
   | (go_at_call 43; refine (bdm_any p _ HP.out).mono ?_; rintro e w3 ⟨rfl, hb⟩; rw [HQ4.out]; have HR := Lib.hid (HR.out.later hb); have HB := Lib.hid (below_on HB.out hb); clear hb)
   | (go_at_call 44; refine (flm_any p _).mono ?_; rintro e w3 ⟨rfl, hb⟩; rw [HQ5.out]; have HR := Lib.hid (HR.out.later hb); have HB := Lib.hid (below_on HB.out hb); clear hb)
   | (go_at_call 42; refine (unl_any _ _ _).mono ?_; rintro e w9 ⟨rfl, rfl⟩))
 go_ret
 exact ⟨by (rw [HS.out]; try rfl), HB.out⟩
set_option maxRecDepth 100000 in
set_option maxHeartbeats 1000000 in
theorem arg_6 (p : Nat → Int) (w : World) (hp : FitP p) (h0 : decide (p 0 < 9) = true) (h1 : decide (p 78 ≤ 1) = true) (h2 : decide (-1 ≤ p 83) = true) (h3 : decide (p 83 < 64) = true) (h4 : lawB p 64 = true) (h5 : filB p 4 = true) (h6 : ckB p = false) : Calls Tryz.prog 21 #[.agg (posA p)] w (IntL (anZ p 0) w) := by
 have HP := Lib.hid hp
 have HB := Lib.hid (Below.refl w.heap.size w)
 have HS := Lib.hid (show anZ p 0 = 2 by unfold anZ okN argB; rw [h0, h1, h2, h3, h4, h5, h6]; rfl)
 have HQ4 := Lib.hid h4
 have HQ5 := Lib.hid h5
 have HQ6 := Lib.hid h6
 have HLive := Lib.hid trivial
 clear hp h4 h5 h6
 go_enter Tryz.func21, Tryz.ntmps21
 go_wp2_with (first
   | (refine va_box rfl _ rfl p rfl ?_; intro b1 w1 N R; have HB := Lib.hid (HB.out.trans (N.below.mono HB.out.size)); have HR := Lib.hid R; clear N R)
   | (refine step_get rfl 5 _ rfl b1 (0) rfl Tryz.underlying5 rfl (.int .u8 (p 0)) ?_ ?_; exact HR.out.cell (0) (by decide))
   | (refine step_get rfl 5 _ rfl b1 (78) rfl Tryz.underlying5 rfl (.int .u8 (p 78)) ?_ ?_; exact HR.out.cell (78) (by decide))
   | (refine step_get rfl 26 _ rfl b1 (83) rfl Tryz.underlying26 rfl (.int .i8 (p 83)) ?_ ?_; exact HR.out.cell (83) (by decide))
   | (refine va_load rfl _ rfl b1 rfl p HR.out ?_)
   | (go_at_call 43; refine (bdm_any p _ HP.out).mono ?_; rintro e w3 ⟨rfl, hb⟩; rw [HQ4.out]; have HR := Lib.hid (HR.out.later hb); have HB := Lib.hid (below_on HB.out hb); clear hb)
   | (go_at_call 44; refine (flm_any p _).mono ?_; rintro e w3 ⟨rfl, hb⟩; rw [HQ5.out]; have HR := Lib.hid (HR.out.later hb); have HB := Lib.hid (below_on HB.out hb); clear hb)
   | (go_at_call 45; refine (ckm_any p _).mono ?_; rintro e w3 ⟨rfl, hb⟩; rw [HQ6.out]; have HR := Lib.hid (HR.out.later hb); have HB := Lib.hid (below_on HB.out hb); clear hb)
   | (go_at_call 42; refine (unl_any _ _ _).mono ?_; rintro e w9 ⟨rfl, rfl⟩))
 go_ret
 exact ⟨by (rw [HS.out]; try rfl), HB.out⟩
set_option maxRecDepth 100000 in
set_option maxHeartbeats 1000000 in
theorem arg_7 (p : Nat → Int) (w : World) (hp : FitP p) (h0 : decide (p 0 < 9) = true) (h1 : decide (p 78 ≤ 1) = true) (h2 : decide (-1 ≤ p 83) = true) (h3 : decide (p 83 < 64) = true) (h4 : lawB p 64 = true) (h5 : filB p 4 = true) (h6 : ckB p = true) : Calls Tryz.prog 21 #[.agg (posA p)] w (IntL (anZ p 0) w) := by
 have HP := Lib.hid hp
 have HB := Lib.hid (Below.refl w.heap.size w)
 have HS := Lib.hid (show anZ p 0 = 0 by unfold anZ okN argB; rw [h0, h1, h2, h3, h4, h5, h6]; rfl)
 have HQ4 := Lib.hid h4
 have HQ5 := Lib.hid h5
 have HQ6 := Lib.hid h6
 have HLive := Lib.hid trivial
 clear hp h4 h5 h6
 go_enter Tryz.func21, Tryz.ntmps21
 go_wp2_with (first
   | (refine va_box rfl _ rfl p rfl ?_; intro b1 w1 N R; have HB := Lib.hid (HB.out.trans (N.below.mono HB.out.size)); have HR := Lib.hid R; clear N R)
   | (refine step_get rfl 5 _ rfl b1 (0) rfl Tryz.underlying5 rfl (.int .u8 (p 0)) ?_ ?_; exact HR.out.cell (0) (by decide))
   | (refine step_get rfl 5 _ rfl b1 (78) rfl Tryz.underlying5 rfl (.int .u8 (p 78)) ?_ ?_; exact HR.out.cell (78) (by decide))
   | (refine step_get rfl 26 _ rfl b1 (83) rfl Tryz.underlying26 rfl (.int .i8 (p 83)) ?_ ?_; exact HR.out.cell (83) (by decide))
   | (refine va_load rfl _ rfl b1 rfl p HR.out ?_)
   | (go_at_call 43; refine (bdm_any p _ HP.out).mono ?_; rintro e w3 ⟨rfl, hb⟩; rw [HQ4.out]; have HR := Lib.hid (HR.out.later hb); have HB := Lib.hid (below_on HB.out hb); clear hb)
   | (go_at_call 44; refine (flm_any p _).mono ?_; rintro e w3 ⟨rfl, hb⟩; rw [HQ5.out]; have HR := Lib.hid (HR.out.later hb); have HB := Lib.hid (below_on HB.out hb); clear hb)
   | (go_at_call 45; refine (ckm_any p _).mono ?_; rintro e w3 ⟨rfl, hb⟩; rw [HQ6.out]; have HR := Lib.hid (HR.out.later hb); have HB := Lib.hid (below_on HB.out hb); clear hb)
   | (go_at_call 42; refine (unl_any _ _ _).mono ?_; rintro e w9 ⟨rfl, rfl⟩))
 go_ret
 exact ⟨by (rw [HS.out]; try rfl), HB.out⟩
theorem arg_any (p : Nat → Int) (w : World) (hp : FitP p) : Calls Tryz.prog 21 #[.agg (posA p)] w (IntL (anZ p 0) w) := by
 cases h0 : decide (p 0 < 9)
 case false => exact arg_0 p w hp h0
 cases h1 : decide (p 78 ≤ 1)
 case false => exact arg_1 p w hp h0 h1
 cases h2 : decide (-1 ≤ p 83)
 case false => exact arg_2 p w hp h0 h1 h2
 cases h3 : decide (p 83 < 64)
 case false => exact arg_3 p w hp h0 h1 h2 h3
 cases h4 : lawB p 64
 case false => exact arg_4 p w hp h0 h1 h2 h3 h4
 cases h5 : filB p 4
 case false => exact arg_5 p w hp h0 h1 h2 h3 h4 h5
 cases h6 : ckB p
 case false => exact arg_6 p w hp h0 h1 h2 h3 h4 h5 h6
 exact arg_7 p w hp h0 h1 h2 h3 h4 h5 h6
set_option maxRecDepth 100000 in
set_option maxHeartbeats 1000000 in
theorem clk_0 (p : Nat → Int) (w : World) (h0 : (p 86 == nrZ (p 86) 0) = false) : Calls Tryz.prog 53 #[.agg (posA p)] w (IntL (anZ p 1) w) := by
 have HB := Lib.hid (Below.refl w.heap.size w)
 have HS := Lib.hid (show anZ p 1 = 125 by unfold anZ okN clkB; rw [h0]; rfl)
 obtain ⟨x, hx⟩ : ∃ x, nrZ (p 86) 0 = x := ⟨_, rfl⟩
 rw [hx] at h0
 have HN86 := Lib.hid hx
 clear hx
 go_enter Tryz.func53, Tryz.ntmps53
 go_wp2_with (first
   | (refine va_box rfl _ rfl p rfl ?_; intro b1 w1 N R; have HB := Lib.hid (HB.out.trans (N.below.mono HB.out.size)); have HR := Lib.hid R; clear N R))
 refine late_begin 20 (by kernel_rfl) ?_
 refine lv 0 rfl ?_; apply Exists.intro; refine ⟨fun w' hl => ?_, ?_⟩
 ·(go_simp; try with_reducible rfl)
 simp only [Act.put, pa, pb, pc]
 refine lv 1 rfl ?_; apply Exists.intro; refine ⟨fun w' hl => ?_, ?_⟩
 ·(go_simp; try with_reducible rfl)
 simp only [Act.put, pa, pb, pc]
 refine lv 2 rfl ⟨_, fun w' hl => (run_get 3 _ rfl b1 (86) rfl Tryz.underlying3 rfl (.int .i64 (p 86)) (((HR.out.later hl).cell (86) (by decide)))), ?_⟩
 simp only [Act.put, pa, pb, pc]
 refine lv 3 rfl ?_; apply Exists.intro; refine ⟨fun w' hl => ?_, ?_⟩
 ·(go_simp; try with_reducible rfl)
 simp only [Act.put, pa, pb, pc]
 refine lv 4 rfl ?_; apply Exists.intro; refine ⟨fun w' hl => ?_, ?_⟩
 ·(go_simp; try with_reducible rfl)
 simp only [Act.put, pa, pb, pc]
 refine lv 5 rfl ⟨_, fun w' hl => (run_get 3 _ rfl b1 (86) rfl Tryz.underlying3 rfl (.int .i64 (p 86)) (((HR.out.later hl).cell (86) (by decide)))), ?_⟩
 simp only [Act.put, pa, pb, pc]
 refine late_one 6 (by kernel_rfl) (by kernel_rfl) (fun o ho => ?_)
 simp only [qa, qb, qc, qd] at ho; subst ho
 refine ⟨by kernel_rfl, fun wn hl K hK => ?_⟩
 have HR := Lib.hid (HR.out.later hl); have HB := Lib.hid (below_on HB.out hl); clear hl
 refine wp_enter _ _ (by go_simp; exact ⟨rfl, rfl⟩) ?_
 refine (near_any (p 86) 0 _).mono ?_; rintro e wm ⟨rfl, rfl⟩; refine ⟨_, rfl, ?_⟩
 rw [HN86.out]
 refine hK.out _ _ (Later.refl _) ?_
 clear hK K
 simp only [Act.put, pa, pb, pc]
 refine lv 7 rfl ⟨.bool false, fun w' hl => ?_, ?_⟩
 ·(go_simp; try simp [h0])
 simp only [Act.put, pa, pb, pc]
 refine lv 8 rfl ?_; apply Exists.intro; refine ⟨fun w' hl => ?_, ?_⟩
 ·(go_simp; try with_reducible rfl)
 simp only [Act.put, pa, pb, pc]
 refine lo 9 rfl ?_
 simp only [Act.put, pa, pb, pc]
 refine lo 10 rfl ?_
 simp only [Act.put, pa, pb, pc]
 refine lo 11 rfl ?_
 simp only [Act.put, pa, pb, pc]
 refine lo 12 rfl ?_
 simp only [Act.put, pa, pb, pc]
 refine lo 13 rfl ?_
 simp only [Act.put, pa, pb, pc]
 refine lo 14 rfl ?_
 simp only [Act.put, pa, pb, pc]
 refine lo 15 rfl ?_
 simp only [Act.put, pa, pb, pc]
 refine lo 16 rfl ?_
 simp only [Act.put, pa, pb, pc]
 refine lv 17 rfl ?_; apply Exists.intro; refine ⟨fun w' hl => ?_, ?_⟩
 ·(go_simp; try with_reducible rfl)
 simp only [Act.put, pa, pb, pc]
 refine late_one 18 (by kernel_rfl) (by kernel_rfl) (fun o ho => ?_)
 simp only [qa, qb, qc, qd] at ho; subst ho
 refine ⟨by kernel_rfl, fun wn hl K hK => ?_⟩
 have HR := Lib.hid (HR.out.later hl); have HB := Lib.hid (below_on HB.out hl); clear hl
 refine wp_enter _ _ (by go_simp; exact ⟨rfl, rfl⟩) ?_
 refine (unl_any _ _ _).mono ?_; rintro e wm ⟨rfl, rfl⟩; refine ⟨_, rfl, ?_⟩
 refine hK.out _ _ (Later.refl _) ?_
 clear hK K
 simp only [Act.put, pa, pb, pc]
 refine lv 19 rfl ?_; apply Exists.intro; refine ⟨fun w' hl => ?_, ?_⟩
 ·(go_simp; try with_reducible rfl)
 simp only [Act.put, pa, pb, pc]
 refine late_end (by kernel_rfl) (fun wn hl => ?_)
 have HR := Lib.hid (HR.out.later hl); have HB := Lib.hid (below_on HB.out hl); clear hl
 go_wp2_with fail
 go_ret
 exact ⟨by (rw [HS.out]; try rfl), HB.out⟩
set_option maxRecDepth 100000 in
set_option maxHeartbeats 1000000 in
theorem clk_1 (p : Nat → Int) (w : World) (h0 : (p 86 == nrZ (p 86) 0) = true) (h1 : (p 87 == nrZ (p 87) 1) = false) : Calls Tryz.prog 53 #[.agg (posA p)] w (IntL (anZ p 1) w) := by
 have HB := Lib.hid (Below.refl w.heap.size w)
 have HS := Lib.hid (show anZ p 1 = 125 by unfold anZ okN clkB; rw [h0, h1]; rfl)
 obtain ⟨x, hx⟩ : ∃ x, nrZ (p 86) 0 = x := ⟨_, rfl⟩
 rw [hx] at h0
 have HN86 := Lib.hid hx
 obtain ⟨y, hy⟩ : ∃ y, nrZ (p 87) 1 = y := ⟨_, rfl⟩
 rw [hy] at h1
 have HN87 := Lib.hid hy
 clear hx hy
 go_enter Tryz.func53, Tryz.ntmps53
 go_wp2_with (first
   | (refine va_box rfl _ rfl p rfl ?_; intro b1 w1 N R; have HB := Lib.hid (HB.out.trans (N.below.mono HB.out.size)); have HR := Lib.hid R; clear N R))
 refine late_begin 20 (by kernel_rfl) ?_
 refine lv 0 rfl ?_; apply Exists.intro; refine ⟨fun w' hl => ?_, ?_⟩
 ·(go_simp; try with_reducible rfl)
 simp only [Act.put, pa, pb, pc]
 refine lv 1 rfl ?_; apply Exists.intro; refine ⟨fun w' hl => ?_, ?_⟩
 ·(go_simp; try with_reducible rfl)
 simp only [Act.put, pa, pb, pc]
 refine lv 2 rfl ⟨_, fun w' hl => (run_get 3 _ rfl b1 (86) rfl Tryz.underlying3 rfl (.int .i64 (p 86)) (((HR.out.later hl).cell (86) (by decide)))), ?_⟩
 simp only [Act.put, pa, pb, pc]
 refine lv 3 rfl ?_; apply Exists.intro; refine ⟨fun w' hl => ?_, ?_⟩
 ·(go_simp; try with_reducible rfl)
 simp only [Act.put, pa, pb, pc]
 refine lv 4 rfl ?_; apply Exists.intro; refine ⟨fun w' hl => ?_, ?_⟩
 ·(go_simp; try with_reducible rfl)
 simp only [Act.put, pa, pb, pc]
 refine lv 5 rfl ⟨_, fun w' hl => (run_get 3 _ rfl b1 (86) rfl Tryz.underlying3 rfl (.int .i64 (p 86)) (((HR.out.later hl).cell (86) (by decide)))), ?_⟩
 simp only [Act.put, pa, pb, pc]
 refine late_one 6 (by kernel_rfl) (by kernel_rfl) (fun o ho => ?_)
 simp only [qa, qb, qc, qd] at ho; subst ho
 refine ⟨by kernel_rfl, fun wn hl K hK => ?_⟩
 have HR := Lib.hid (HR.out.later hl); have HB := Lib.hid (below_on HB.out hl); clear hl
 refine wp_enter _ _ (by go_simp; exact ⟨rfl, rfl⟩) ?_
 refine (near_any (p 86) 0 _).mono ?_; rintro e wm ⟨rfl, rfl⟩; refine ⟨_, rfl, ?_⟩
 rw [HN86.out]
 refine hK.out _ _ (Later.refl _) ?_
 clear hK K
 simp only [Act.put, pa, pb, pc]
 refine lv 7 rfl ⟨.bool true, fun w' hl => ?_, ?_⟩
 ·(go_simp; try simp [h0])
 simp only [Act.put, pa, pb, pc]
 refine lv 8 rfl ?_; apply Exists.intro; refine ⟨fun w' hl => ?_, ?_⟩
 ·(go_simp; try with_reducible rfl)
 simp only [Act.put, pa, pb, pc]
 refine lv 9 rfl ?_; apply Exists.intro; refine ⟨fun w' hl => ?_, ?_⟩
 ·(go_simp; try with_reducible rfl)
 simp only [Act.put, pa, pb, pc]
 refine lv 10 rfl ?_; apply Exists.intro; refine ⟨fun w' hl => ?_, ?_⟩
 ·(go_simp; try with_reducible rfl)
 simp only [Act.put, pa, pb, pc]
 refine lv 11 rfl ⟨_, fun w' hl => (run_get 3 _ rfl b1 (87) rfl Tryz.underlying3 rfl (.int .i64 (p 87)) (((HR.out.later hl).cell (87) (by decide)))), ?_⟩
 simp only [Act.put, pa, pb, pc]
 refine lv 12 rfl ?_; apply Exists.intro; refine ⟨fun w' hl => ?_, ?_⟩
 ·(go_simp; try with_reducible rfl)
 simp only [Act.put, pa, pb, pc]
 refine lv 13 rfl ?_; apply Exists.intro; refine ⟨fun w' hl => ?_, ?_⟩
 ·(go_simp; try with_reducible rfl)
 simp only [Act.put, pa, pb, pc]
 refine lv 14 rfl ⟨_, fun w' hl => (run_get 3 _ rfl b1 (87) rfl Tryz.underlying3 rfl (.int .i64 (p 87)) (((HR.out.later hl).cell (87) (by decide)))), ?_⟩
 simp only [Act.put, pa, pb, pc]
 refine late_one 15 (by kernel_rfl) (by kernel_rfl) (fun o ho => ?_)
 simp only [qa, qb, qc, qd] at ho; subst ho
 refine ⟨by kernel_rfl, fun wn hl K hK => ?_⟩
 have HR := Lib.hid (HR.out.later hl); have HB := Lib.hid (below_on HB.out hl); clear hl
 refine wp_enter _ _ (by go_simp; exact ⟨rfl, rfl⟩) ?_
 refine (near_any (p 87) 1 _).mono ?_; rintro e wm ⟨rfl, rfl⟩; refine ⟨_, rfl, ?_⟩
 rw [HN87.out]
 refine hK.out _ _ (Later.refl _) ?_
 clear hK K
 simp only [Act.put, pa, pb, pc]
 refine lv 16 rfl ⟨.bool false, fun w' hl => ?_, ?_⟩
 ·(go_simp; try simp [h1])
 simp only [Act.put, pa, pb, pc]
 refine lv 17 rfl ?_; apply Exists.intro; refine ⟨fun w' hl => ?_, ?_⟩
 ·(go_simp; try with_reducible rfl)
 simp only [Act.put, pa, pb, pc]
 refine late_one 18 (by kernel_rfl) (by kernel_rfl) (fun o ho => ?_)
 simp only [qa, qb, qc, qd] at ho; subst ho
 refine ⟨by kernel_rfl, fun wn hl K hK => ?_⟩
 have HR := Lib.hid (HR.out.later hl); have HB := Lib.hid (below_on HB.out hl); clear hl
 refine wp_enter _ _ (by go_simp; exact ⟨rfl, rfl⟩) ?_
 refine (unl_any _ _ _).mono ?_; rintro e wm ⟨rfl, rfl⟩; refine ⟨_, rfl, ?_⟩
 refine hK.out _ _ (Later.refl _) ?_
 clear hK K
 simp only [Act.put, pa, pb, pc]
 refine lv 19 rfl ?_; apply Exists.intro; refine ⟨fun w' hl => ?_, ?_⟩
 ·(go_simp; try with_reducible rfl)
 simp only [Act.put, pa, pb, pc]
 refine late_end (by kernel_rfl) (fun wn hl => ?_)
 have HR := Lib.hid (HR.out.later hl); have HB := Lib.hid (below_on HB.out hl); clear hl
 go_wp2_with fail
 go_ret
 exact ⟨by (rw [HS.out]; try rfl), HB.out⟩
set_option maxRecDepth 100000 in
set_option maxHeartbeats 1000000 in
theorem clk_2 (p : Nat → Int) (w : World) (h0 : (p 86 == nrZ (p 86) 0) = true) (h1 : (p 87 == nrZ (p 87) 1) = true) : Calls Tryz.prog 53 #[.agg (posA p)] w (IntL (anZ p 1) w) := by
 have HB := Lib.hid (Below.refl w.heap.size w)
 have HS := Lib.hid (show anZ p 1 = 0 by unfold anZ okN clkB; rw [h0, h1]; rfl)
 obtain ⟨x, hx⟩ : ∃ x, nrZ (p 86) 0 = x := ⟨_, rfl⟩
 rw [hx] at h0
 have HN86 := Lib.hid hx
 obtain ⟨y, hy⟩ : ∃ y, nrZ (p 87) 1 = y := ⟨_, rfl⟩
 rw [hy] at h1
 have HN87 := Lib.hid hy
 clear hx hy
 go_enter Tryz.func53, Tryz.ntmps53
 go_wp2_with (first
   | (refine va_box rfl _ rfl p rfl ?_; intro b1 w1 N R; have HB := Lib.hid (HB.out.trans (N.below.mono HB.out.size)); have HR := Lib.hid R; clear N R))
 refine late_begin 20 (by kernel_rfl) ?_
 refine lv 0 rfl ?_; apply Exists.intro; refine ⟨fun w' hl => ?_, ?_⟩
 ·(go_simp; try with_reducible rfl)
 simp only [Act.put, pa, pb, pc]
 refine lv 1 rfl ?_; apply Exists.intro; refine ⟨fun w' hl => ?_, ?_⟩
 ·(go_simp; try with_reducible rfl)
 simp only [Act.put, pa, pb, pc]
 refine lv 2 rfl ⟨_, fun w' hl => (run_get 3 _ rfl b1 (86) rfl Tryz.underlying3 rfl (.int .i64 (p 86)) (((HR.out.later hl).cell (86) (by decide)))), ?_⟩
 simp only [Act.put, pa, pb, pc]
 refine lv 3 rfl ?_; apply Exists.intro; refine ⟨fun w' hl => ?_, ?_⟩
 ·(go_simp; try with_reducible rfl)
 simp only [Act.put, pa, pb, pc]
 refine lv 4 rfl ?_; apply Exists.intro; refine ⟨fun w' hl => ?_, ?_⟩
 ·(go_simp; try with_reducible rfl)
 simp only [Act.put, pa, pb, pc]
 refine lv 5 rfl ⟨_, fun w' hl => (run_get 3 _ rfl b1 (86) rfl Tryz.underlying3 rfl (.int .i64 (p 86)) (((HR.out.later hl).cell (86) (by decide)))), ?_⟩
 simp only [Act.put, pa, pb, pc]
 refine late_one 6 (by kernel_rfl) (by kernel_rfl) (fun o ho => ?_)
 simp only [qa, qb, qc, qd] at ho; subst ho
 refine ⟨by kernel_rfl, fun wn hl K hK => ?_⟩
 have HR := Lib.hid (HR.out.later hl); have HB := Lib.hid (below_on HB.out hl); clear hl
 refine wp_enter _ _ (by go_simp; exact ⟨rfl, rfl⟩) ?_
 refine (near_any (p 86) 0 _).mono ?_; rintro e wm ⟨rfl, rfl⟩; refine ⟨_, rfl, ?_⟩
 rw [HN86.out]
 refine hK.out _ _ (Later.refl _) ?_
 clear hK K
 simp only [Act.put, pa, pb, pc]
 refine lv 7 rfl ⟨.bool true, fun w' hl => ?_, ?_⟩
 ·(go_simp; try simp [h0])
 simp only [Act.put, pa, pb, pc]
 refine lv 8 rfl ?_; apply Exists.intro; refine ⟨fun w' hl => ?_, ?_⟩
 ·(go_simp; try with_reducible rfl)
 simp only [Act.put, pa, pb, pc]
 refine lv 9 rfl ?_; apply Exists.intro; refine ⟨fun w' hl => ?_, ?_⟩
 ·(go_simp; try with_reducible rfl)
 simp only [Act.put, pa, pb, pc]
 refine lv 10 rfl ?_; apply Exists.intro; refine ⟨fun w' hl => ?_, ?_⟩
 ·(go_simp; try with_reducible rfl)
 simp only [Act.put, pa, pb, pc]
 refine lv 11 rfl ⟨_, fun w' hl => (run_get 3 _ rfl b1 (87) rfl Tryz.underlying3 rfl (.int .i64 (p 87)) (((HR.out.later hl).cell (87) (by decide)))), ?_⟩
 simp only [Act.put, pa, pb, pc]
 refine lv 12 rfl ?_; apply Exists.intro; refine ⟨fun w' hl => ?_, ?_⟩
 ·(go_simp; try with_reducible rfl)
 simp only [Act.put, pa, pb, pc]
 refine lv 13 rfl ?_; apply Exists.intro; refine ⟨fun w' hl => ?_, ?_⟩
 ·(go_simp; try with_reducible rfl)
 simp only [Act.put, pa, pb, pc]
 refine lv 14 rfl ⟨_, fun w' hl => (run_get 3 _ rfl b1 (87) rfl Tryz.underlying3 rfl (.int .i64 (p 87)) (((HR.out.later hl).cell (87) (by decide)))), ?_⟩
 simp only [Act.put, pa, pb, pc]
 refine late_one 15 (by kernel_rfl) (by kernel_rfl) (fun o ho => ?_)
 simp only [qa, qb, qc, qd] at ho; subst ho
 refine ⟨by kernel_rfl, fun wn hl K hK => ?_⟩
 have HR := Lib.hid (HR.out.later hl); have HB := Lib.hid (below_on HB.out hl); clear hl
 refine wp_enter _ _ (by go_simp; exact ⟨rfl, rfl⟩) ?_
 refine (near_any (p 87) 1 _).mono ?_; rintro e wm ⟨rfl, rfl⟩; refine ⟨_, rfl, ?_⟩
 rw [HN87.out]
 refine hK.out _ _ (Later.refl _) ?_
 clear hK K
 simp only [Act.put, pa, pb, pc]
 refine lv 16 rfl ⟨.bool true, fun w' hl => ?_, ?_⟩
 ·(go_simp; try simp [h1])
 simp only [Act.put, pa, pb, pc]
 refine lv 17 rfl ?_; apply Exists.intro; refine ⟨fun w' hl => ?_, ?_⟩
 ·(go_simp; try with_reducible rfl)
 simp only [Act.put, pa, pb, pc]
 refine late_one 18 (by kernel_rfl) (by kernel_rfl) (fun o ho => ?_)
 simp only [qa, qb, qc, qd] at ho; subst ho
 refine ⟨by kernel_rfl, fun wn hl K hK => ?_⟩
 have HR := Lib.hid (HR.out.later hl); have HB := Lib.hid (below_on HB.out hl); clear hl
 refine wp_enter _ _ (by go_simp; exact ⟨rfl, rfl⟩) ?_
 refine (unl_any _ _ _).mono ?_; rintro e wm ⟨rfl, rfl⟩; refine ⟨_, rfl, ?_⟩
 refine hK.out _ _ (Later.refl _) ?_
 clear hK K
 simp only [Act.put, pa, pb, pc]
 refine lv 19 rfl ?_; apply Exists.intro; refine ⟨fun w' hl => ?_, ?_⟩
 ·(go_simp; try with_reducible rfl)
 simp only [Act.put, pa, pb, pc]
 refine late_end (by kernel_rfl) (fun wn hl => ?_)
 have HR := Lib.hid (HR.out.later hl); have HB := Lib.hid (below_on HB.out hl); clear hl
 go_wp2_with fail
 go_ret
 exact ⟨by (rw [HS.out]; try rfl), HB.out⟩
theorem clk_any (p : Nat → Int) (w : World) : Calls Tryz.prog 53 #[.agg (posA p)] w (IntL (anZ p 1) w) := by
 cases h0 : (p 86 == nrZ (p 86) 0)
 ·exact clk_0 p w h0
 ·cases h1 : (p 87 == nrZ (p 87) 1)
  ·exact clk_1 p w h0 h1
  ·exact clk_2 p w h0 h1
end Go.Proofs.YtigkbccpkepdmaaGreatDoor
