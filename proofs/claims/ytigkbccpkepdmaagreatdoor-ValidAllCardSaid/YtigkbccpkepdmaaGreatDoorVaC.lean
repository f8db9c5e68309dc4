/-
 Contracts of layer 12's men, promotedMayBe, pocketsMayBe, pockets.
-/
import Derived.Test.YtigkbccpkepdmaaGreatDoorVaB
namespace Go.Proofs.YtigkbccpkepdmaaGreatDoor
open Go.RowKit
set_option linter.unusedVariables false
set_option linter.unusedSimpArgs false

theorem hld_rng {p : Nat → Int} (hp : FitP p) (c : Nat) (hc : c < 2) : ∀ k, k ≤ 6 → 0 ≤ hldZ p c k ∧ hldZ p c k ≤ 255 * k
 | 0, _ => by unfold hldZ; simp
 | k + 1, h => by
  have := hld_rng hp c hc k (by omega)
  have := hp.pock (66 + c * 6 + k) (by omega) (by omega)
  rw [hldZ_succ]; omega
theorem cnt64 (b : Nat) : 0 ≤ cntN b ∧ cntN b ≤ 64 := by
 unfold cntN
 have : (listN b).length ≤ 64 := listN_len b
 omega
theorem mn_rng {p : Nat → Int} (hp : FitP p) : ∀ d, d ≤ 2 → 0 ≤ mnZ p d ∧ mnZ p d ≤ 1594 * d
 | 0, _ => by unfold mnZ; simp
 | d + 1, h => by
  have := mn_rng hp d (by omega)
  have := hld_rng hp d (by omega) 6 (by omega)
  have := cnt64 (ofN p (d : Int) 0)
  show 0 ≤ mnZ p d + cntN (ofN p (d : Int) 0) + hldZ p d 6 ∧ mnZ p d + cntN (ofN p (d : Int) 0) + hldZ p d 6 ≤ 1594 * ((d + 1 : Nat) : Int)
  omega
theorem sizeU8x12 : (Tryz.prog.info? 25).map (·.size) = some 12 := by kernel_rfl
theorem sizeU8x6 : (Tryz.prog.info? 24).map (·.size) = some 6 := by kernel_rfl
theorem zeroU8x6 : (Tryz.prog.info? 24).map (fun i => (i.zero, i.size)) = some (some (.agg (arrA 6 .u8 zeroP)), 6) := by kernel_rfl
set_option maxRecDepth 100000 in
set_option maxHeartbeats 1000000 in
theorem men_any (p : Nat → Int) (w : World) (hp : FitP p) : Calls Tryz.prog 100 #[.agg (posA p)] w (IntL (menZ p) w) := by
 have HP := Lib.hid hp
 clear hp
 have HB := Lib.hid (Below.refl w.heap.size w)
 go_enter Tryz.func100, Tryz.ntmps100
 go_wp2_with (first
   | (refine va_box rfl _ rfl p rfl ?_; intro b1 w1 N R; have HB := Lib.hid (HB.out.trans (N.below.mono HB.out.size)); have HR := Lib.hid R; clear N R)
   | (refine va_arr rfl 25 _ rfl b1 66 12 rfl .u8 p HR.out (by decide) (fun j hj => k_u8 (by omega)) _ Tryz.underlying25 rfl sizeU8x12 ?_))
 go_loopw [3, 11] (fun n i wr => ∃ d : Nat, d ≤ 2 ∧ i = .int .i64 (d : Int) ∧ n = .int .i64 (mnZ p d) ∧ VR wr b1 p ∧ Below w.heap.size w wr) (fun _ i _ => 2 - (intOf i).toNat)
 case atStart => exact ⟨0, by omega, rfl, rfl, HR.out, HB.out⟩
 case round =>
  obtain ⟨d, hd, rfl, rfl, hr, hbw⟩ := hrel
  have HR := Lib.hid hr
  have HB := Lib.hid hbw
  clear hr hbw
  have hm := mn_rng HP.out d hd
  obtain ⟨m, hmm⟩ : ∃ m, mnZ p d = m := ⟨_, rfl⟩
  rw [hmm] at hm
  have HMm := Lib.hid hmm
  rw [hmm]
  clear hmm
  by_cases hlt : d < 2
  ·have gd : decide ((d : Int) < 2) = true := decide_eq_true (by omega)
   have wd : IntKind.u8.wrap (d : Int) = (d : Int) := by
    have : d = 0 ∨ d = 1 := by omega
    rcases this with rfl | rfl <;> rfl
   have hcn := cnt64 (ofN p (d : Int) 0)
   obtain ⟨cn, hcc⟩ : ∃ cn, cntN (ofN p (d : Int) 0) = cn := ⟨_, rfl⟩
   rw [hcc] at hcn
   have HCn := Lib.hid hcc
   have ws : IntKind.i64.wrap (m + cn) = m + cn := IntWalk.i64_in _ (by omega)
   have HMC := Lib.hid (show 0 ≤ m + cn ∧ m + cn ≤ 4000 by omega)
   have Hlt := Lib.hid hlt
   clear hcc hm hcn
   go_wp2_with (first
    | (refine step_indexA rfl 25 24 _ _ rfl 2 6 (arrA 12 .u8 fun j => p (66 + j)) rfl .i64 d rfl hlt Tryz.underlying25 Tryz.underlying24 rfl sizeU8x6 (arrA 6 .u8 fun j => p (66 + (d * 6 + j))) (arr_cut 12 6 (d * 6) .u8 (fun j => p (66 + j)) (by omega)) ?_)
    | (refine arr_alloc rfl 24 rfl 6 .u8 zeroU8x6 ?_; intro b4 w6 N R; have HG4 := Lib.hid (show w.heap.size ≤ b4 by rw [N.at_]; exact HB.out.size); have HD4 := Lib.hid (show b1 ≠ b4 by rw [N.at_]; exact Nat.ne_of_lt HR.out.lt); have HR := Lib.hid (HR.out.later N.below); have HB := Lib.hid (HB.out.trans (N.below.mono HB.out.size)); have HM := Lib.hid R; clear N R)
    | (refine arr_store rfl 24 _ _ rfl b4 rfl 6 .u8 zeroP (fun j => p (66 + (d * 6 + j))) rfl ?_ sizeU8x6 ?_; exact HM.out; intro w7 U R; have HR := Lib.hid (show VR w7 b1 p from Blk.apart HR.out U HD4.out); have HB := Lib.hid (HB.out.trans (U.below HG4.out)); have HM := Lib.hid R; clear U R)
    | (go_at_call 119; refine (count_set p (d : Int) 0 _ HP.out.at.bd).mono ?_; rintro e w3 ⟨rfl, hb⟩; rw [HCn.out]; have HR := Lib.hid (HR.out.later hb); have HM := Lib.hid (HM.out.later hb); have HB := Lib.hid (below_on HB.out hb); clear hb)
    | (refine va_in rfl _ rfl b1 rfl p HR.out ?_)
    | (refine arr_load rfl 24 _ rfl b4 rfl 6 .u8 (fun j => p (66 + (d * 6 + j))) ?_ _ Tryz.underlying24 rfl sizeU8x6 ?_; exact HM.out))
   go_loop [3, 23] (fun n i => ∃ k : Nat, k ≤ 6 ∧ i = .int .i64 (k : Int) ∧ n = .int .i64 (m + cn + hldZ p d k)) (fun _ i => 6 - (intOf i).toNat)
   case atStart => exact ⟨0, by omega, rfl, by rw [show hldZ p d 0 = 0 from rfl, Int.add_zero]⟩
   case round =>
    obtain ⟨k, hk, rfl, rfl⟩ := hrel
    have hh := hld_rng HP.out d Hlt.out k hk
    obtain ⟨h, hhh⟩ : ∃ h, hldZ p d k = h := ⟨_, rfl⟩
    rw [hhh] at hh
    rw [hhh]
    have HHh := Lib.hid hhh
    clear hhh
    by_cases hk6 : k < 6
    ·have gk : decide ((k : Int) < 6) = true := decide_eq_true (by omega)
     obtain ⟨x, HX⟩ : ∃ x, Hid (p (66 + (d * 6 + k)) = x) := ⟨_, Lib.hid rfl⟩
     have hx := HP.out.pock (66 + (d * 6 + k)) (by omega) (by omega)
     rw [HX.out] at hx
     have wx : IntKind.i64.wrap x = x := IntWalk.i64_in _ (by omega)
     have hmc := HMC.out
     have wsx : IntKind.i64.wrap (m + cn + h + x) = m + cn + h + x := IntWalk.i64_in _ (by omega)
     have HS := Lib.hid (show m + cn + hldZ p d (k + 1) = m + cn + h + x by rw [hldZ_succ, HHh.out, show 66 + d * 6 + k = 66 + (d * 6 + k) by omega, HX.out]; omega)
     have Hk6 := Lib.hid hk6
     clear hx hh hmc
     go_wp2_with (first
      | (refine va_pick rfl 24 5 _ _ rfl 6 .u8 (fun j => p (66 + (d * 6 + j))) rfl k rfl hk6 Tryz.underlying24 Tryz.underlying5 sizeU8a _ HX.out ?_))
     go_round
     case rel => exact ⟨k + 1, by have := Hk6.out; omega, by go_num, by rw [HS.out]⟩
     case measure => simp [intOf]; have := Hk6.out; omega
    ·obtain rfl : k = 6 := by omega
     have HE := Lib.hid (show mnZ p (d + 1) = m + cn + h by show mnZ p d + cntN (ofN p (d : Int) 0) + hldZ p d 6 = _; rw [HMm.out, HCn.out, HHh.out])
     clear hh
     go_wp2_with fail
     go_roundw
     case rel => exact ⟨d + 1, by have := Hlt.out; omega, by go_num, by rw [HE.out], HR.out, HB.out⟩
     case measure => simp [intOf]; have := Hlt.out; omega
  ·obtain rfl : d = 2 := by omega
   clear hm
   go_wp2_with fail
   go_ret
   exact ⟨by rw [show menZ p = m from HMm.out]; rfl, HB.out⟩
set_option maxRecDepth 100000 in
set_option maxHeartbeats 1000000 in
theorem prm_any (p : Nat → Int) (w : World) (hp : FitP p) : Calls Tryz.prog 101 #[.agg (posA p)] w (BoL (prmB p 64) w) := by
 have HP := Lib.hid hp
 obtain ⟨m, hm⟩ : ∃ m : Nat, p 65 = (m : Int) := ⟨(p 65).toNat, by have := hp.prom.1; omega⟩
 have hmw : m < W64 := by have := hp.prom.2; rw [hm] at this; exact this
 have HMw := Lib.hid hmw
 have HM0 := Lib.hid (show (p 65).toNat = m by rw [hm]; rfl)
 have HC65 := Lib.hid (fun (W : World) (b : Nat) (h : VR W b p) => show W.cell? ⟨b, 65, none⟩ = some (.int .u64 (m : Int)) by rw [h.cell 65 (by decide), hm]; rfl)
 clear hp hm hmw
 have HB := Lib.hid (Below.refl w.heap.size w)
 go_enter Tryz.func101, Tryz.ntmps101
 go_wp2_with (first
   | (refine va_box rfl _ rfl p rfl ?_; intro b1 w1 N R; have HB := Lib.hid (HB.out.trans (N.below.mono HB.out.size)); have HR := Lib.hid R; clear N R)
   | (refine va_arr rfl 22 _ rfl b1 1 64 rfl .u8 p HR.out (by decide) (fun j hj => kAt_board (by omega) hj) _ Tryz.underlying22 rfl size22b ?_))
 go_loop [9] (fun i => ∃ k : Nat, k ≤ 64 ∧ i = .int .i64 (k : Int) ∧ Hid (prmB p k = true)) (fun i => 64 - (intOf i).toNat)
 case atStart => exact ⟨0, by omega, rfl, Lib.hid rfl⟩
 case round =>
  obtain ⟨k, hk, rfl, Hi⟩ := hrel
  by_cases hlt : k < 64
  ·have gk0 : decide ((k : Int) < 64) = true := decide_eq_true (by omega)
   have k0 : (0 : Int) ≤ (k : Int) := by omega
   have hx := HP.out.bd k hlt
   obtain ⟨x, HX⟩ : ∃ x, Hid (p (1 + k) = x) := ⟨_, Lib.hid rfl⟩
   rw [HX.out] at hx
   obtain ⟨x0, x1⟩ := hx
   have HX0 := Lib.hid x0
   have HX1 := Lib.hid x1
   obtain ⟨kx, HKx⟩ : ∃ a, Hid (kndZ x = a) := ⟨_, Lib.hid rfl⟩
   have hsh := vshr_bit (n := m) (a := k) HMw.out
   obtain ⟨tb, htb⟩ : ∃ b, m.testBit k = b := ⟨_, rfl⟩
   rw [htb] at hsh
   have HS := Lib.hid (show prmB p (k + 1) = (!tb || (decide (2 ≤ kx) && decide (kx ≤ 5))) by rw [prmB_succ, Hi.out, HX.out, HKx.out, HM0.out, htb]; rfl)
   have HF := Lib.hid (fun h : prmB p (k + 1) = false => prmB_no h 64 (by omega))
   have Hlt := Lib.hid hlt
   clear x0 x1 htb
   cases tb
   ·have HE := Lib.hid (show prmB p (k + 1) = true by rw [HS.out]; rfl)
    go_wp2_with (first
     | (refine va_pick rfl 22 5 _ _ rfl 64 .u8 (fun j => p (1 + j)) rfl k rfl hlt Tryz.underlying22 Tryz.underlying5 sizeU8a _ HX.out ?_)
     | (go_at_call 80; refine (knd_any x _ HX0.out HX1.out).mono ?_; rintro e w3 ⟨rfl, rfl⟩; rw [HKx.out])
     | (refine step_get rfl 23 _ rfl b1 65 rfl Tryz.underlying23 rfl (.int .u64 (m : Int)) ?_ ?_; exact HC65.out _ _ HR.out))
    go_round
    case rel => exact ⟨k + 1, by have := Hlt.out; omega, by go_num, HE⟩
    case measure => simp [intOf]; have := Hlt.out; omega
   ·cases g2 : decide (kx < 2)
    ·cases g5 : decide (5 < kx)
     ·have HE := Lib.hid (show prmB p (k + 1) = true by
       rw [HS.out, decide_eq_true (show 2 ≤ kx by have := of_decide_eq_false g2; omega), decide_eq_true (show kx ≤ 5 by have := of_decide_eq_false g5; omega)]; rfl)
      go_wp2_with (first
       | (refine va_pick rfl 22 5 _ _ rfl 64 .u8 (fun j => p (1 + j)) rfl k rfl hlt Tryz.underlying22 Tryz.underlying5 sizeU8a _ HX.out ?_)
       | (go_at_call 80; refine (knd_any x _ HX0.out HX1.out).mono ?_; rintro e w3 ⟨rfl, rfl⟩; rw [HKx.out])
       | (refine step_get rfl 23 _ rfl b1 65 rfl Tryz.underlying23 rfl (.int .u64 (m : Int)) ?_ ?_; exact HC65.out _ _ HR.out))
      go_round
      case rel => exact ⟨k + 1, by have := Hlt.out; omega, by go_num, HE⟩
      case measure => simp [intOf]; have := Hlt.out; omega
     ·have HQ := Lib.hid (HF.out (by rw [HS.out, show decide (kx ≤ 5) = false from decide_eq_false (by have := of_decide_eq_true g5; omega), Bool.and_false]; rfl))
      go_wp2_with (first
       | (refine va_pick rfl 22 5 _ _ rfl 64 .u8 (fun j => p (1 + j)) rfl k rfl hlt Tryz.underlying22 Tryz.underlying5 sizeU8a _ HX.out ?_)
       | (go_at_call 80; refine (knd_any x _ HX0.out HX1.out).mono ?_; rintro e w3 ⟨rfl, rfl⟩; rw [HKx.out])
       | (refine step_get rfl 23 _ rfl b1 65 rfl Tryz.underlying23 rfl (.int .u64 (m : Int)) ?_ ?_; exact HC65.out _ _ HR.out))
      go_ret
      exact ⟨by rw [HQ.out]; rfl, HB.out⟩
    ·have HQ := Lib.hid (HF.out (by rw [HS.out, show decide (2 ≤ kx) = false from decide_eq_false (by have := of_decide_eq_true g2; omega)]; rfl))
     go_wp2_with (first
      | (refine va_pick rfl 22 5 _ _ rfl 64 .u8 (fun j => p (1 + j)) rfl k rfl hlt Tryz.underlying22 Tryz.underlying5 sizeU8a _ HX.out ?_)
      | (go_at_call 80; refine (knd_any x _ HX0.out HX1.out).mono ?_; rintro e w3 ⟨rfl, rfl⟩; rw [HKx.out])
      | (refine step_get rfl 23 _ rfl b1 65 rfl Tryz.underlying23 rfl (.int .u64 (m : Int)) ?_ ?_; exact HC65.out _ _ HR.out))
     go_ret
     exact ⟨by rw [HQ.out]; rfl, HB.out⟩
  ·obtain rfl : k = 64 := by omega
   go_wp2_with fail
   go_ret
   exact ⟨by rw [Hi.out]; rfl, HB.out⟩
theorem vaGuard : Tryz.prog.eqGuardType Tryz.prog.depth 25 = false := by kernel_rfl
theorem vaKey : Tryz.prog.keyTypeAt 3 25 = true := by kernel_rfl
theorem vaTiled : Tryz.prog.tiled 5 25 = true := by kernel_rfl
theorem vaSize : (Tryz.prog.info? 25).map (·.size) = some 12 := by kernel_rfl
theorem vaFormed (p : Nat → Int) : (Value.agg (partL p 66 12).toArray).formed Tryz.prog 25 = true := by kernel_rfl
theorem vaLits {p : Nat → Int} (h : ∀ i, 66 ≤ i → i < 78 → 0 ≤ p i ∧ p i ≤ 255) : (Tryz.prog.keyLits 3 25 (partL p 66 12)).isSome = true := by
 have g : Good p 3 25 66 :=
  good_array (e := 24) (n := 2) Tryz.underlying25 (by kernel_rfl) fun i hi =>
   good_array (e := 5) (n := 6) Tryz.underlying24 (by kernel_rfl) fun j hj =>
    good_int (k := .u8) Tryz.underlying5 (by kernel_rfl) (k_u8 (.inr (.inl (by rw [show Tryz.prog.cellsOf 24 = 6 by kernel_rfl, show Tryz.prog.cellsOf 5 = 1 by kernel_rfl]; omega)))) (by
     rw [show Tryz.prog.cellsOf 24 = 6 by kernel_rfl, show Tryz.prog.cellsOf 5 = 1 by kernel_rfl]
     rw [k_u8 (.inr (.inl (by omega)))]
     exact vwf_u8 (h _ (by omega) (by omega)))
 unfold Good at g
 rwa [show Tryz.prog.cellsOf 25 = 12 by kernel_rfl] at g
theorem va_same {p : Nat → Int} (h : ∀ i, 66 ≤ i → i < 78 → 0 ≤ p i ∧ p i ≤ 255) (w : World) (r : Bool) (hr : r = true ↔ ∀ i, 66 ≤ i → i < 78 → p i = 0) :
  (binOp .eql 25 (.agg (partL p 66 12).toArray) (.agg (partL zeroP 66 12).toArray)).run Tryz.prog w = .ok (.bool r) w := by
 obtain ⟨la, hl⟩ := Option.isSome_iff_exists.1 (vaLits h)
 obtain ⟨lb, kl⟩ := Option.isSome_iff_exists.1 (vaLits (p := zeroP) (fun i _ _ => ⟨Int.le_refl 0, show (0 : Int) ≤ 255 by decide⟩))
 obtain ⟨s, hs, hi⟩ := run_equalIn_deep 9997 3 25 vaKey w 3 3 (.agg (partL p 66 12).toArray) (.agg (partL zeroP 66 12).toArray) la lb (vaFormed p) (vaFormed zeroP) hl kl
 have e : s = r := by
  rw [Bool.eq_iff_iff, hi, hr]
  constructor
  ·intro e i h1 h2
   have a := cells_of_lits 5 25 vaTiled _ _ _ hl
   have b := cells_of_lits 5 25 vaTiled _ _ _ kl
   rw [e] at a
   have a := a.trans b.symm
   have c := congrArg (fun l : List Value => l[i - 66]?) a
   have l12 : i - 66 < 12 := by omega
   simp only [partL, List.getElem?_map, List.getElem?_range l12, Option.map_some] at c
   have := (Value.int.inj (Option.some.inj c)).2
   rw [show 66 + (i - 66) = i by omega] at this
   exact this
  ·intro e
   have : partL p 66 12 = partL zeroP 66 12 := by
    unfold partL
    apply List.map_congr_left
    intro j hj
    have hj := List.mem_range.1 hj
    rw [e (66 + j) (by omega) (by omega)]; rfl
   rw [this] at hl
   exact Option.some.inj (hl.symm.trans kl)
 rw [run_eql_struct, hs, e]; rfl
theorem va_pk {ops : Array Oper} {rest : List Oper} {op : Oper} {a : Act} {w : World} {Q : Exit → Act → World → Prop} (hw : Region.wanted op (yielded ops a.tmps) = true) (x y : Operand) (ho : op.op = .binOp .eql 25 x y 25) (p : Nat → Int) (hx : a.eval x = .agg (partL p 66 12).toArray) (hy : a.eval y = .agg (partL zeroP 66 12).toArray)
  (h : ∀ i, 66 ≤ i → i < 78 → 0 ≤ p i ∧ p i ≤ 255) (r : Bool) (hr : r = true ↔ ∀ i, 66 ≤ i → i < 78 → p i = 0)
  (hk : wpList Tryz.prog ops Q rest (a.put op.dst (.bool r)) w) : wpList Tryz.prog ops Q (op :: rest) a w :=
 wpList_want hw fun K hK => by
  have hk := hK _ _ hk
  unfold Oper.wp execOp
  simp only [ho, hx, hy, Sem.run_bind, run_eqGuard_agg w _ _ _ _ _ _ vaGuard, Result.andThen_ok, va_same h w r hr]
  exact hk
theorem pkz_iff (p : Nat → Int) : pkz p = true ↔ ∀ i, 66 ≤ i → i < 78 → p i = 0 := by
 unfold pkz
 rw [List.all_eq_true]
 constructor
 ·intro h i h1 h2
  have := h (i - 66) (List.mem_range.2 (by omega))
  rw [show 66 + (i - 66) = i by omega] at this
  simpa using this
 ·intro h j hj
  have hj := List.mem_range.1 hj
  simpa using h (66 + j) (by omega) (by omega)
set_option maxRecDepth 100000 in
set_option maxHeartbeats 1000000 in
theorem pkm_z0 (p : Nat → Int) (w : World) (hp : FitP p) (hT : TabVar w) (q0 : pocB (p 0).toNat = false) (q1 : pkz p = false) : Calls Tryz.prog 83 #[.agg (posA p)] w (BoL (pkB p) w) := by
 have HT := Lib.hid hT
 have HP := Lib.hid hp
 obtain ⟨v, hvv⟩ : ∃ v : Nat, p 0 = (v : Int) := ⟨(p 0).toNat, (Int.toNat_of_nonneg hp.var.1).symm⟩
 have hv2 : (p 0).toNat = v := by omega
 have HV := Lib.hid (show v ≤ 255 by have := hp.var.2; omega)
 have HCs := Lib.hid (fun (W : World) (b : Nat) (h : VR W b p) => show W.cell? ⟨b, 0, none⟩ = some (.int .u8 (v : Int)) by rw [h.cell 0 (by decide), hvv]; rfl)
 have HS := Lib.hid (show pkB p = false by unfold pkB; rw [q0, q1]; rfl)
 have HPo := Lib.hid (hv2 ▸ q0)
 have HZ := Lib.hid (show false = true ↔ ∀ i, 66 ≤ i → i < 78 → p i = 0 from by rw [← pkz_iff, q1])
 clear q1
 clear hp hT hvv hv2 q0
 have HB := Lib.hid (Below.refl w.heap.size w)
 have HQu1 := Lib.hid trivial
 have HQu2 := Lib.hid trivial
 have HQu3 := Lib.hid trivial
 have HQu4 := Lib.hid trivial
 have HQu5 := Lib.hid trivial
 have HQu6 := Lib.hid trivial
 go_enter Tryz.func83, Tryz.ntmps83
 go_wp2_with (first
   | (clear HQu1; refine va_box rfl _ rfl p rfl ?_; intro b1 w1 N R; have HB := Lib.hid (HB.out.trans (N.below.mono HB.out.size)); have HR := Lib.hid R; clear N R)
   | (clear HQu2; refine step_get rfl 5 _ rfl b1 0 rfl Tryz.underlying5 rfl (.int .u8 (v : Int)) ?_ ?_; exact HCs.out _ _ HR.out)
   | (clear HQu3; go_at_call 99; refine (poc_any v _ HV.out (HT.out.on HB.out)).mono ?_; rintro e w3 ⟨rfl, hb⟩; rw [HPo.out]; have HR := Lib.hid (HR.out.later hb); have HB := Lib.hid (below_on HB.out hb); clear hb)
   | (clear HQu4; refine va_part rfl 25 _ rfl b1 66 12 rfl p HR.out (by decide) _ Tryz.underlying25 rfl vaSize ?_)
   | (clear HQu5; refine step_build rfl 25 _ rfl (partL zeroP 66 12).toArray (by kernel_rfl) ?_)
   | (clear HQu6; refine va_pk rfl _ _ rfl p rfl rfl (fun i h1 h2 => HP.out.pock i h1 h2) _ HZ.out ?_))
 go_ret
 exact ⟨by (rw [HS.out]; try rfl), HB.out⟩
set_option maxRecDepth 100000 in
set_option maxHeartbeats 1000000 in
theorem pkm_z1 (p : Nat → Int) (w : World) (hp : FitP p) (hT : TabVar w) (q0 : pocB (p 0).toNat = false) (q1 : pkz p = true) : Calls Tryz.prog 83 #[.agg (posA p)] w (BoL (pkB p) w) := by
 have HT := Lib.hid hT
 have HP := Lib.hid hp
 obtain ⟨v, hvv⟩ : ∃ v : Nat, p 0 = (v : Int) := ⟨(p 0).toNat, (Int.toNat_of_nonneg hp.var.1).symm⟩
 have hv2 : (p 0).toNat = v := by omega
 have HV := Lib.hid (show v ≤ 255 by have := hp.var.2; omega)
 have HCs := Lib.hid (fun (W : World) (b : Nat) (h : VR W b p) => show W.cell? ⟨b, 0, none⟩ = some (.int .u8 (v : Int)) by rw [h.cell 0 (by decide), hvv]; rfl)
 have HS := Lib.hid (show pkB p = (p 65 == 0) by unfold pkB; rw [q0, q1]; rfl)
 have HPo := Lib.hid (hv2 ▸ q0)
 have HZ := Lib.hid ((pkz_iff p).1 q1)
 clear q1
 clear hp hT hvv hv2 q0
 have HB := Lib.hid (Below.refl w.heap.size w)
 have HQu1 := Lib.hid trivial
 have HQu2 := Lib.hid trivial
 have HQu3 := Lib.hid trivial
 have HQu4 := Lib.hid trivial
 have HQu5 := Lib.hid trivial
 have HQu6 := Lib.hid trivial
 have HQu7 := Lib.hid trivial
 go_enter Tryz.func83, Tryz.ntmps83
 go_wp2_with (first
   | (clear HQu1; refine va_box rfl _ rfl p rfl ?_; intro b1 w1 N R; have HB := Lib.hid (HB.out.trans (N.below.mono HB.out.size)); have HR := Lib.hid R; clear N R)
   | (clear HQu2; refine step_get rfl 5 _ rfl b1 0 rfl Tryz.underlying5 rfl (.int .u8 (v : Int)) ?_ ?_; exact HCs.out _ _ HR.out)
   | (clear HQu3; go_at_call 99; refine (poc_any v _ HV.out (HT.out.on HB.out)).mono ?_; rintro e w3 ⟨rfl, hb⟩; rw [HPo.out]; have HR := Lib.hid (HR.out.later hb); have HB := Lib.hid (below_on HB.out hb); clear hb)
   | (clear HQu4; refine va_part rfl 25 _ rfl b1 66 12 rfl p HR.out (by decide) _ Tryz.underlying25 rfl vaSize ?_)
   | (clear HQu5; refine step_build rfl 25 _ rfl (partL zeroP 66 12).toArray (by kernel_rfl) ?_)
   | (clear HQu6; refine va_pk rfl _ _ rfl p rfl rfl (fun i h1 h2 => HP.out.pock i h1 h2) true ⟨fun _ => HZ.out, fun _ => rfl⟩ ?_)
   | (clear HQu7; refine step_get rfl 23 _ rfl b1 (65) rfl Tryz.underlying23 rfl (.int .u64 (p 65)) ?_ ?_; exact HR.out.cell (65) (by decide)))
 go_ret
 exact ⟨by (rw [HS.out]; try rfl), HB.out⟩
set_option maxRecDepth 100000 in
set_option maxHeartbeats 1000000 in
theorem pkm_a (p : Nat → Int) (w : World) (hp : FitP p) (hT : TabVar w) (q0 : pocB (p 0).toNat = true) (q1 : (p 66 == 0) = false) : Calls Tryz.prog 83 #[.agg (posA p)] w (BoL (pkB p) w) := by
 have HT := Lib.hid hT
 have HP := Lib.hid hp
 obtain ⟨v, hvv⟩ : ∃ v : Nat, p 0 = (v : Int) := ⟨(p 0).toNat, (Int.toNat_of_nonneg hp.var.1).symm⟩
 have hv2 : (p 0).toNat = v := by omega
 have HV := Lib.hid (show v ≤ 255 by have := hp.var.2; omega)
 have HCs := Lib.hid (fun (W : World) (b : Nat) (h : VR W b p) => show W.cell? ⟨b, 0, none⟩ = some (.int .u8 (v : Int)) by rw [h.cell 0 (by decide), hvv]; rfl)
 have HS := Lib.hid (show pkB p = false by unfold pkB; rw [q0, q1]; rfl)
 have HPo := Lib.hid (hv2 ▸ q0)
 clear hp hT hvv hv2 q0
 have HB := Lib.hid (Below.refl w.heap.size w)
 have HQu1 := Lib.hid trivial
 have HQu2 := Lib.hid trivial
 have HQu3 := Lib.hid trivial
 have HQu4 := Lib.hid trivial
 go_enter Tryz.func83, Tryz.ntmps83
 go_wp2_with (first
   | (clear HQu1; refine va_box rfl _ rfl p rfl ?_; intro b1 w1 N R; have HB := Lib.hid (HB.out.trans (N.below.mono HB.out.size)); have HR := Lib.hid R; clear N R)
   | (clear HQu2; refine step_get rfl 5 _ rfl b1 0 rfl Tryz.underlying5 rfl (.int .u8 (v : Int)) ?_ ?_; exact HCs.out _ _ HR.out)
   | (clear HQu3; go_at_call 99; refine (poc_any v _ HV.out (HT.out.on HB.out)).mono ?_; rintro e w3 ⟨rfl, hb⟩; rw [HPo.out]; have HR := Lib.hid (HR.out.later hb); have HB := Lib.hid (below_on HB.out hb); clear hb)
   | (clear HQu4; refine step_get rfl 5 _ rfl b1 (66) rfl Tryz.underlying5 rfl (.int .u8 (p 66)) ?_ ?_; exact HR.out.cell (66) (by decide)))
 go_ret
 exact ⟨by (rw [HS.out]; try rfl), HB.out⟩
set_option maxRecDepth 100000 in
set_option maxHeartbeats 1000000 in
theorem pkm_b (p : Nat → Int) (w : World) (hp : FitP p) (hT : TabVar w) (q0 : pocB (p 0).toNat = true) (q1 : (p 66 == 0) = true) (q2 : (p 72 == 0) = false) : Calls Tryz.prog 83 #[.agg (posA p)] w (BoL (pkB p) w) := by
 have HT := Lib.hid hT
 have HP := Lib.hid hp
 obtain ⟨v, hvv⟩ : ∃ v : Nat, p 0 = (v : Int) := ⟨(p 0).toNat, (Int.toNat_of_nonneg hp.var.1).symm⟩
 have hv2 : (p 0).toNat = v := by omega
 have HV := Lib.hid (show v ≤ 255 by have := hp.var.2; omega)
 have HCs := Lib.hid (fun (W : World) (b : Nat) (h : VR W b p) => show W.cell? ⟨b, 0, none⟩ = some (.int .u8 (v : Int)) by rw [h.cell 0 (by decide), hvv]; rfl)
 have HS := Lib.hid (show pkB p = false by unfold pkB; rw [q0, q1, q2]; rfl)
 have HPo := Lib.hid (hv2 ▸ q0)
 clear hp hT hvv hv2 q0
 have HB := Lib.hid (Below.refl w.heap.size w)
 have HQu1 := Lib.hid trivial
 have HQu2 := Lib.hid trivial
 have HQu3 := Lib.hid trivial
 have HQu4 := Lib.hid trivial
 have HQu5 := Lib.hid trivial
 go_enter Tryz.func83, Tryz.ntmps83
 go_wp2_with (first
   | (clear HQu1; refine va_box rfl _ rfl p rfl ?_; intro b1 w1 N R; have HB := Lib.hid (HB.out.trans (N.below.mono HB.out.size)); have HR := Lib.hid R; clear N R)
   | (clear HQu2; refine step_get rfl 5 _ rfl b1 0 rfl Tryz.underlying5 rfl (.int .u8 (v : Int)) ?_ ?_; exact HCs.out _ _ HR.out)
   | (clear HQu3; go_at_call 99; refine (poc_any v _ HV.out (HT.out.on HB.out)).mono ?_; rintro e w3 ⟨rfl, hb⟩; rw [HPo.out]; have HR := Lib.hid (HR.out.later hb); have HB := Lib.hid (below_on HB.out hb); clear hb)
   | (clear HQu4; refine step_get rfl 5 _ rfl b1 (66) rfl Tryz.underlying5 rfl (.int .u8 (p 66)) ?_ ?_; exact HR.out.cell (66) (by decide))
   | (clear HQu5; refine step_get rfl 5 _ rfl b1 (72) rfl Tryz.underlying5 rfl (.int .u8 (p 72)) ?_ ?_; exact HR.out.cell (72) (by decide)))
 go_ret
 exact ⟨by (rw [HS.out]; try rfl), HB.out⟩
set_option maxRecDepth 100000 in
set_option maxHeartbeats 1000000 in
theorem pkm_c (p : Nat → Int) (w : World) (hp : FitP p) (hT : TabVar w) (q0 : pocB (p 0).toNat = true) (q1 : (p 66 == 0) = true) (q2 : (p 72 == 0) = true) (q3 : decide (menZ p ≤ 32) = false) : Calls Tryz.prog 83 #[.agg (posA p)] w (BoL (pkB p) w) := by
 have HT := Lib.hid hT
 have HP := Lib.hid hp
 obtain ⟨v, hvv⟩ : ∃ v : Nat, p 0 = (v : Int) := ⟨(p 0).toNat, (Int.toNat_of_nonneg hp.var.1).symm⟩
 have hv2 : (p 0).toNat = v := by omega
 have HV := Lib.hid (show v ≤ 255 by have := hp.var.2; omega)
 have HCs := Lib.hid (fun (W : World) (b : Nat) (h : VR W b p) => show W.cell? ⟨b, 0, none⟩ = some (.int .u8 (v : Int)) by rw [h.cell 0 (by decide), hvv]; rfl)
 have HS := Lib.hid (show pkB p = false by unfold pkB; rw [q0, q1, q2, q3]; rfl)
 have HPo := Lib.hid (hv2 ▸ q0)
 obtain ⟨n, hn⟩ : ∃ n, menZ p = n := ⟨_, rfl⟩
 rw [hn] at q3
 have HMe := Lib.hid hn
 clear hn
 clear hp hT hvv hv2 q0
 have HB := Lib.hid (Below.refl w.heap.size w)
 have HQu1 := Lib.hid trivial
 have HQu2 := Lib.hid trivial
 have HQu3 := Lib.hid trivial
 have HQu4 := Lib.hid trivial
 have HQu5 := Lib.hid trivial
 have HQu6 := Lib.hid trivial
 have HQu7 := Lib.hid trivial
 go_enter Tryz.func83, Tryz.ntmps83
 go_wp2_with (first
   | (clear HQu1; refine va_box rfl _ rfl p rfl ?_; intro b1 w1 N R; have HB := Lib.hid (HB.out.trans (N.below.mono HB.out.size)); have HR := Lib.hid R; clear N R)
   | (clear HQu2; refine step_get rfl 5 _ rfl b1 0 rfl Tryz.underlying5 rfl (.int .u8 (v : Int)) ?_ ?_; exact HCs.out _ _ HR.out)
   | (clear HQu3; go_at_call 99; refine (poc_any v _ HV.out (HT.out.on HB.out)).mono ?_; rintro e w3 ⟨rfl, hb⟩; rw [HPo.out]; have HR := Lib.hid (HR.out.later hb); have HB := Lib.hid (below_on HB.out hb); clear hb)
   | (clear HQu4; refine step_get rfl 5 _ rfl b1 (66) rfl Tryz.underlying5 rfl (.int .u8 (p 66)) ?_ ?_; exact HR.out.cell (66) (by decide))
   | (clear HQu5; refine step_get rfl 5 _ rfl b1 (72) rfl Tryz.underlying5 rfl (.int .u8 (p 72)) ?_ ?_; exact HR.out.cell (72) (by decide))
   | (clear HQu6; refine va_load rfl _ rfl b1 rfl p HR.out ?_)
   | (clear HQu7; go_at_call 100; refine (men_any p _ HP.out).mono ?_; rintro e w3 ⟨rfl, hb⟩; rw [HMe.out]; have HR := Lib.hid (HR.out.later hb); have HB := Lib.hid (below_on HB.out hb); clear hb))
 go_ret
 exact ⟨by (rw [HS.out]; try rfl), HB.out⟩
set_option maxRecDepth 100000 in
set_option maxHeartbeats 1000000 in
theorem pkm_d (p : Nat → Int) (w : World) (hp : FitP p) (hT : TabVar w) (q0 : pocB (p 0).toNat = true) (q1 : (p 66 == 0) = true) (q2 : (p 72 == 0) = true) (q3 : decide (menZ p ≤ 32) = true) : Calls Tryz.prog 83 #[.agg (posA p)] w (BoL (pkB p) w) := by
 have HT := Lib.hid hT
 have HP := Lib.hid hp
 obtain ⟨v, hvv⟩ : ∃ v : Nat, p 0 = (v : Int) := ⟨(p 0).toNat, (Int.toNat_of_nonneg hp.var.1).symm⟩
 have hv2 : (p 0).toNat = v := by omega
 have HV := Lib.hid (show v ≤ 255 by have := hp.var.2; omega)
 have HCs := Lib.hid (fun (W : World) (b : Nat) (h : VR W b p) => show W.cell? ⟨b, 0, none⟩ = some (.int .u8 (v : Int)) by rw [h.cell 0 (by decide), hvv]; rfl)
 have HS := Lib.hid (show pkB p = prmB p 64 by unfold pkB; rw [q0, q1, q2, q3]; rfl)
 have HPo := Lib.hid (hv2 ▸ q0)
 obtain ⟨n, hn⟩ : ∃ n, menZ p = n := ⟨_, rfl⟩
 rw [hn] at q3
 have HMe := Lib.hid hn
 clear hn
 obtain ⟨r, hr⟩ : ∃ r, prmB p 64 = r := ⟨_, rfl⟩
 have HPr := Lib.hid hr
 rw [hr] at HS
 clear hr
 clear hp hT hvv hv2 q0
 have HB := Lib.hid (Below.refl w.heap.size w)
 have HQu1 := Lib.hid trivial
 have HQu2 := Lib.hid trivial
 have HQu3 := Lib.hid trivial
 have HQu4 := Lib.hid trivial
 have HQu5 := Lib.hid trivial
 have HQu6 := Lib.hid trivial
 have HQu7 := Lib.hid trivial
 have HQu8 := Lib.hid trivial
 have HQu9 := Lib.hid trivial
 go_enter Tryz.func83, Tryz.ntmps83
 go_wp2_with (first
   | (clear HQu1; refine va_box rfl _ rfl p rfl ?_; intro b1 w1 N R; have HB := Lib.hid (HB.out.trans (N.below.mono HB.out.size)); have HR := Lib.hid R; clear N R)
   | (clear HQu2; refine step_get rfl 5 _ rfl b1 0 rfl Tryz.underlying5 rfl (.int .u8 (v : Int)) ?_ ?_; exact HCs.out _ _ HR.out)
   | (clear HQu3; go_at_call 99; refine (poc_any v _ HV.out (HT.out.on HB.out)).mono ?_; rintro e w3 ⟨rfl, hb⟩; rw [HPo.out]; have HR := Lib.hid (HR.out.later hb); have HB := Lib.hid (below_on HB.out hb); clear hb)
   | (clear HQu4; refine step_get rfl 5 _ rfl b1 (66) rfl Tryz.underlying5 rfl (.int .u8 (p 66)) ?_ ?_; exact HR.out.cell (66) (by decide))
   | (clear HQu5; refine step_get rfl 5 _ rfl b1 (72) rfl Tryz.underlying5 rfl (.int .u8 (p 72)) ?_ ?_; exact HR.out.cell (72) (by decide))
   | (clear HQu6; refine va_load rfl _ rfl b1 rfl p HR.out ?_)
   | (clear HQu7; go_at_call 100; refine (men_any p _ HP.out).mono ?_; rintro e w3 ⟨rfl, hb⟩; rw [HMe.out]; have HR := Lib.hid (HR.out.later hb); have HB := Lib.hid (below_on HB.out hb); clear hb)
   | (clear HQu8; refine va_load rfl _ rfl b1 rfl p HR.out ?_)
   | (clear HQu9; go_at_call 101; refine (prm_any p _ HP.out).mono ?_; rintro e w3 ⟨rfl, hb⟩; rw [HPr.out]; have HR := Lib.hid (HR.out.later hb); have HB := Lib.hid (below_on HB.out hb); clear hb))
 go_ret
 exact ⟨by (rw [HS.out]; try rfl), HB.out⟩
theorem pkm_any (p : Nat → Int) (w : World) (hp : FitP p) (hT : TabVar w) : Calls Tryz.prog 83 #[.agg (posA p)] w (BoL (pkB p) w) := by
 cases q0 : pocB (p 0).toNat
 ·cases q1 : pkz p
  ·exact pkm_z0 p w hp hT q0 q1
  ·exact pkm_z1 p w hp hT q0 q1
 ·cases q1 : (p 66 == 0)
  ·exact pkm_a p w hp hT q0 q1
  ·cases q2 : (p 72 == 0)
   ·exact pkm_b p w hp hT q0 q1 q2
   ·cases q3 : decide (menZ p ≤ 32)
    ·exact pkm_c p w hp hT q0 q1 q2 q3
    ·exact pkm_d p w hp hT q0 q1 q2 q3
set_option maxRecDepth 100000 in
set_option maxHeartbeats 1000000 in
theorem pk_any (p : Nat → Int) (w : World) (hp : FitP p) (hT : TabVar w) : Calls Tryz.prog 56 #[.agg (posA p)] w (IntL (anZ p 4) w) := by
 have HP := Lib.hid hp
 have HT := Lib.hid hT
 clear hp hT
 have HB := Lib.hid (Below.refl w.heap.size w)
 have HQu1 := Lib.hid trivial
 have HQu2 := Lib.hid trivial
 have HQu3 := Lib.hid trivial
 have HQu4 := Lib.hid trivial
 go_enter Tryz.func56, Tryz.ntmps56
 go_wp2_with (first
   | (clear HQu1; refine va_box rfl _ rfl p rfl ?_; intro b1 w1 N R; have HB := Lib.hid (HB.out.trans (N.below.mono HB.out.size)); have HR := Lib.hid R; clear N R)
   | (clear HQu2; refine va_load rfl _ rfl b1 rfl p HR.out ?_)
   | (clear HQu3; go_at_call 83; refine (pkm_any p _ HP.out (HT.out.on HB.out)).mono ?_; rintro e w3 ⟨rfl, hb⟩; have HR := Lib.hid (HR.out.later hb); have HB := Lib.hid (below_on HB.out hb); clear hb)
   | (clear HQu4; go_at_call 42; refine (unl_any _ _ _).mono ?_; rintro e w9 ⟨rfl, rfl⟩))
 go_ret
 exact ⟨rfl, HB.out⟩
end Go.Proofs.YtigkbccpkepdmaaGreatDoor
