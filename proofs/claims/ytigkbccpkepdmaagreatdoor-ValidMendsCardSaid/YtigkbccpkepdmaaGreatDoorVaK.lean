/-
  Contract of layer 12's Mend.
-/
import Derived.Test.YtigkbccpkepdmaaGreatDoorVaE
namespace Go.Proofs.YtigkbccpkepdmaaGreatDoor
open Go.RowKit
set_option linter.unusedVariables false
set_option linter.unusedSimpArgs false

/-- The rights, up to the k-th one, without those that are wrong. -/
def mdR (p : Nat → Int) (k : Nat) : Nat → Int := fun i => if 79 ≤ i ∧ i < 79 + k then (bif rkB p ((i - 79) / 2) ((i - 79) % 2) then p i else -1) else p i
def mdS (p : Nat → Int) : Nat → Int := fun i => if i = 83 then (bif pasB p then p 83 else -1) else mdR p 4 i
/-- The position mended. -/
def mdP (p : Nat → Int) : Nat → Int := bif argB p then upd (upd (mdS p) 86 (nrZ (p 86) 0)) 87 (nrZ (p 87) 1) else p
theorem mdR_zero (p : Nat → Int) : mdR p 0 = p := by
  funext i; unfold mdR; rw [if_neg (by omega)]
theorem mdR_next {p : Nat → Int} {c s : Nat} (hs : s < 2) (b : Bool) (h : rkB p c s = b) : mdR p (c * 2 + s + 1) = bif b then mdR p (c * 2 + s) else upd (mdR p (c * 2 + s)) (79 + c * 2 + s) (-1) := by
  funext i
  by_cases e : i = 79 + c * 2 + s
  · subst e
    have e1 : (79 + c * 2 + s - 79) / 2 = c := by omega
    have e2 : (79 + c * 2 + s - 79) % 2 = s := by omega
    have l : mdR p (c * 2 + s + 1) (79 + c * 2 + s) = bif b then p (79 + c * 2 + s) else -1 := by unfold mdR; rw [if_pos (by omega), e1, e2, h]
    have r : mdR p (c * 2 + s) (79 + c * 2 + s) = p (79 + c * 2 + s) := by unfold mdR; rw [if_neg (by omega)]
    rw [l]
    cases b
    · show (-1 : Int) = upd (mdR p (c * 2 + s)) (79 + c * 2 + s) (-1) (79 + c * 2 + s)
      rw [upd_same]
    · show p (79 + c * 2 + s) = mdR p (c * 2 + s) (79 + c * 2 + s)
      rw [r]
  · have e1 : mdR p (c * 2 + s + 1) i = mdR p (c * 2 + s) i := by
      unfold mdR
      by_cases g : 79 ≤ i ∧ i < 79 + (c * 2 + s)
      · rw [if_pos g, if_pos (by omega)]
      · rw [if_neg g, if_neg (by omega)]
    rw [e1]
    cases b
    · show _ = upd _ _ _ _; rw [upd_other _ _ _ _ e]
    · rfl
theorem mdS_yes {p : Nat → Int} (h : pasB p = true) : mdS p = mdR p 4 := by
  funext i; unfold mdS
  by_cases e : i = 83
  · rw [if_pos e, h, e]; unfold mdR; rw [if_neg (by omega)]; rfl
  · rw [if_neg e]
theorem mdS_no {p : Nat → Int} (h : pasB p = false) : mdS p = upd (mdR p 4) 83 (-1) := by
  funext i; unfold mdS
  by_cases e : i = 83
  · rw [if_pos e, h, e, upd_same]; rfl
  · rw [if_neg e, upd_other _ _ _ _ e]
/-! The walk. -/
section laws
variable {ops : Array Oper} {rest : List Oper} {op : Oper} {a : Act} {w : World} {Q : Exit → Act → World → Prop}
theorem built_vaK (p : Nat → Int) : Tryz.prog.built 47 [(0, .agg (posA p))] = some (posA p) := by kernel_rfl
theorem va_bld (hw : Region.wanted op (yielded ops a.tmps) = true) (x : Operand) (ho : op.op = .build 47 #[(0, x)]) (p : Nat → Int) (hx : a.eval x = .agg (posA p))
    (h : wpList Tryz.prog ops Q rest (a.put op.dst (.agg (posA p))) w) : wpList Tryz.prog ops Q (op :: rest) a w := by
  refine step_build hw 47 _ ho (posA p) ?_ h
  have e : ((#[(0, x)] : Array (Nat × Operand)).map fun (i, x) => (i, a.eval x)).toList = [(0, a.eval x)] := by simp
  rw [e, hx]
  exact built_vaK p
theorem row_arr (hw : Region.wanted op (yielded ops a.tmps) = true) (T : TypeId) (x : Operand) (ho : op.op = .load T x) (b off n : Nat) (hx : a.eval x = .pointer (some ⟨b, off, none⟩)) (K : IntKind) (p : Nat → Int) (hr : Row w b p) (hn : off + n ≤ 88) (hk : ∀ j, j < n → kAt (off + j) = K)
    (d : TypeDesc) (hu : Tryz.prog.underlying T = some d) (hd : d.isRow = true) (hi : (Tryz.prog.info? T).map (·.size) = some n)
    (h : wpList Tryz.prog ops Q rest (a.put op.dst (.agg (arrA n K fun j => p (off + j)))) w) : wpList Tryz.prog ops Q (op :: rest) a w :=
  wpList_want hw fun _ hK => wp_load_mid T x ho b off hx (partL p off n) _ (hr.range off n hn) hu hd (by rw [partL_len]; exact hi) (hK _ _ (by rw [part_arr p off n K hk]; exact h))
end laws
def posZ : Array Value := posA zeroP
theorem zeroVp : (Tryz.prog.info? 47).map (fun i => (i.zero, i.size)) = some (some (.agg (posA zeroP)), 88) := by kernel_rfl
theorem size26k : (Tryz.prog.info? 26).map (·.size) = some 1 := by kernel_rfl
theorem size3k : (Tryz.prog.info? 3).map (·.size) = some 1 := by kernel_rfl
set_option maxRecDepth 100000 in
set_option maxHeartbeats 1000000 in
theorem mend_no (p : Nat → Int) (w : World) (hp : FitP p) (hT : TabVar w) (hD : TabDb w) (hL : TabLead w) (hU : TabUs w) (ha : argB p = false) : Calls Tryz.prog 9 #[.agg (posA p)] w (PosL (mdP p) w) := by
  have HP := Lib.hid hp
  have HT := Lib.hid hT
  have HD := Lib.hid hD
  have HL := Lib.hid hL
  have HU := Lib.hid hU
  have HA0 := Lib.hid (show anZ p 0 = 2 by unfold anZ; rw [show okN p 0 = false from ha]; rfl)
  have HS := Lib.hid (show mdP p = p by unfold mdP; rw [ha]; rfl)
  clear hp hT hD hL hU ha
  have HB := Lib.hid (Below.refl w.heap.size w)
  go_enter Tryz.func9, Tryz.ntmps9
  go_wp2_with (first
      | (refine step_box rfl _ rfl p rfl ?_; intro b1 w1 N R; have HG1 := Lib.hid (show w.heap.size ≤ b1 by rw [N.at_]; exact HB.out.size); have HB := Lib.hid (HB.out.trans (N.below.mono HB.out.size)); have HR := Lib.hid R; clear N R)
      | (refine step_alloc rfl rfl ?_; intro b2 w2 N R; have HG2 := Lib.hid (show w.heap.size ≤ b2 by rw [N.at_]; exact HB.out.size); have HD12 := Lib.hid (vnew_ne N HR.out); have HR := Lib.hid (vnew_row N HR.out); have HQ := Lib.hid R; have HB := Lib.hid (HB.out.trans (N.below.mono HB.out.size)); clear N R)
      | (refine step_load rfl _ rfl b1 rfl p ?_ ?_; exact HR.out)
      | (refine va_bld rfl _ rfl p rfl ?_)
      | (refine blk_alloc rfl 47 rfl (posA zeroP) (by rw [posA_size]; exact zeroVp) ?_; intro b3 w3 N R; have HG3 := Lib.hid (show w.heap.size ≤ b3 by rw [N.at_]; exact HB.out.size); have HD13 := Lib.hid (vnew_ne N HR.out); have HD23 := Lib.hid (vnew_ne N HQ.out); have HR := Lib.hid (vnew_row N HR.out); have HQ := Lib.hid (vnew_row N HQ.out); have HV := Lib.hid R; have HB := Lib.hid (HB.out.trans (N.below.mono HB.out.size)); clear N R)
      | (refine blk_store rfl 47 _ _ rfl b3 rfl (posA zeroP) (posA p) rfl ?_ (by rw [posA_size, posA_size]) (posA_one p) (by rw [posA_size]; exact sizeVp) ?_; exact HV.out; intro w4 U R; have HR := Lib.hid (HR.out.apart U HD13.out); have HQ := Lib.hid (HQ.out.apart U HD23.out); have HB := Lib.hid (HB.out.trans (U.below HG3.out)); have HV := Lib.hid (show VR w4 b3 p from R); clear U R)
      | (refine va_load rfl _ rfl b3 rfl p HV.out ?_)
      | (go_at_call 21; refine (arg_any p _ HP.out).mono ?_; rintro e w5 ⟨rfl, hb⟩; rw [HA0.out]; have HR := Lib.hid (HR.out.later hb); have HQ := Lib.hid (HQ.out.later hb); have HV := Lib.hid (HV.out.later hb); have HB := Lib.hid (below_on HB.out hb); clear hb)
      | (refine step_store rfl _ _ rfl b2 rfl zeroP p rfl ?_ ?_; exact HQ.out; intro w6 U R; have HQ := Lib.hid R; have HB := Lib.hid (HB.out.trans (U.below HG2.out)); clear U R))
  refine bodyPost_ret (v := .agg (posA p)) (results_blk rfl _ _ b2 _ rfl HQ.out Tryz.underlying31 rfl (by rw [posA_size]; exact size31) rfl) rfl ⟨by rw [HS.out], HB.out⟩
set_option maxRecDepth 100000 in
set_option maxHeartbeats 1000000 in
theorem mend_yes (p : Nat → Int) (w : World) (hp : FitP p) (hT : TabVar w) (hD : TabDb w) (hL : TabLead w) (hU : TabUs w) (ha : argB p = true) : Calls Tryz.prog 9 #[.agg (posA p)] w (PosL (mdP p) w) := by
  have HP := Lib.hid hp
  have HT := Lib.hid hT
  have HD := Lib.hid hD
  have HL := Lib.hid hL
  have HU := Lib.hid hU
  have HA := Lib.hid ha
  have HA0 := Lib.hid (show anZ p 0 = 0 by unfold anZ; rw [show okN p 0 = true from ha]; rfl)
  have HS := Lib.hid (show mdP p = upd (upd (mdS p) 86 (nrZ (p 86) 0)) 87 (nrZ (p 87) 1) by unfold mdP; rw [ha]; rfl)
  clear hp hT hD hL hU ha
  have HB := Lib.hid (Below.refl w.heap.size w)
  go_enter Tryz.func9, Tryz.ntmps9
  go_wp2_with (first
      | (refine step_box rfl _ rfl p rfl ?_; intro b1 w1 N R; have HG1 := Lib.hid (show w.heap.size ≤ b1 by rw [N.at_]; exact HB.out.size); have HB := Lib.hid (HB.out.trans (N.below.mono HB.out.size)); have HR := Lib.hid R; clear N R)
      | (refine step_alloc rfl rfl ?_; intro b2 w2 N R; have HG2 := Lib.hid (show w.heap.size ≤ b2 by rw [N.at_]; exact HB.out.size); have HD12 := Lib.hid (vnew_ne N HR.out); have HR := Lib.hid (vnew_row N HR.out); have HQ := Lib.hid R; have HB := Lib.hid (HB.out.trans (N.below.mono HB.out.size)); clear N R)
      | (refine step_load rfl _ rfl b1 rfl p ?_ ?_; exact HR.out)
      | (refine va_bld rfl _ rfl p rfl ?_)
      | (refine blk_alloc rfl 47 rfl (posA zeroP) (by rw [posA_size]; exact zeroVp) ?_; intro b3 w3 N R; have HG3 := Lib.hid (show w.heap.size ≤ b3 by rw [N.at_]; exact HB.out.size); have HD13 := Lib.hid (vnew_ne N HR.out); have HD23 := Lib.hid (vnew_ne N HQ.out); have HR := Lib.hid (vnew_row N HR.out); have HQ := Lib.hid (vnew_row N HQ.out); have HV := Lib.hid R; have HB := Lib.hid (HB.out.trans (N.below.mono HB.out.size)); clear N R)
      | (refine blk_store rfl 47 _ _ rfl b3 rfl (posA zeroP) (posA p) rfl ?_ (by rw [posA_size, posA_size]) (posA_one p) (by rw [posA_size]; exact sizeVp) ?_; exact HV.out; intro w4 U R; have HR := Lib.hid (HR.out.apart U HD13.out); have HQ := Lib.hid (HQ.out.apart U HD23.out); have HB := Lib.hid (HB.out.trans (U.below HG3.out)); have HV := Lib.hid (show VR w4 b3 p from R); clear U R)
      | (refine va_load rfl _ rfl b3 rfl p HV.out ?_)
      | (go_at_call 21; refine (arg_any p _ HP.out).mono ?_; rintro e w5 ⟨rfl, hb⟩; rw [HA0.out]; have HR := Lib.hid (HR.out.later hb); have HQ := Lib.hid (HQ.out.later hb); have HV := Lib.hid (HV.out.later hb); have HB := Lib.hid (below_on HB.out hb); clear hb)
      | (refine row_arr rfl 28 _ rfl b1 79 4 rfl .i8 p HR.out (by decide) (fun j hj => k_i8 (by omega) (by omega)) _ Tryz.underlying28 rfl size22c ?_))
  go_loopw [15] (fun i wr => ∃ c : Nat, c ≤ 2 ∧ i = .int .i64 (c : Int) ∧ Row wr b1 (mdR p (c * 2)) ∧ Row wr b2 zeroP ∧ VR wr b3 p ∧ Below w.heap.size w wr) (fun i _ => 2 - (intOf i).toNat)
  case atStart => exact ⟨0, by omega, rfl, by rw [show 0 * 2 = 0 from rfl, mdR_zero]; exact HR.out, HQ.out, HV.out, HB.out⟩
  case round =>
    obtain ⟨c, hc, rfl, hr, hq, hv, hbw⟩ := hrel
    have HR := Lib.hid hr
    have HQ := Lib.hid hq
    have HV := Lib.hid hv
    have HB := Lib.hid hbw
    clear hr hq hv hbw
    by_cases hlt : c < 2
    · have gc : decide ((c : Int) < 2) = true := decide_eq_true (by omega)
      have c0 : (0 : Int) ≤ (c : Int) := by omega
      have c2 : (c : Int) < 2 := by omega
      have HC := Lib.hid hlt
      have wc : IntKind.u8.wrap (c : Int) = (c : Int) := by
        have : c = 0 ∨ c = 1 := by omega
        rcases this with rfl | rfl <;> rfl
      go_wp2_with (first
        | (refine step_indexA rfl 28 27 _ _ rfl 2 2 (arrA 4 .i8 fun j => p (79 + j)) rfl .i64 c rfl hlt Tryz.underlying28 Tryz.underlying27 rfl sizeI8x2 (arrA 2 .i8 fun j => p (79 + (c * 2 + j))) (arr_cut 4 2 (c * 2) .i8 (fun j => p (79 + j)) (by omega)) ?_)
        | (refine arr_alloc rfl 27 rfl 2 .i8 zeroI8x2 ?_; intro b5 w6 N R; have HG5 := Lib.hid (show w.heap.size ≤ b5 by rw [N.at_]; exact HB.out.size); have HD15 := Lib.hid (vnew_ne N HR.out); have HD25 := Lib.hid (vnew_ne N HQ.out); have HD35 := Lib.hid (show b3 ≠ b5 by rw [N.at_]; exact Nat.ne_of_lt HV.out.lt); have HR := Lib.hid (vnew_row N HR.out); have HQ := Lib.hid (vnew_row N HQ.out); have HV := Lib.hid (HV.out.later N.below); have HB := Lib.hid (HB.out.trans (N.below.mono HB.out.size)); have HM := Lib.hid R; clear N R)
        | (refine arr_store rfl 27 _ _ rfl b5 rfl 2 .i8 zeroP (fun j => p (79 + (c * 2 + j))) rfl ?_ sizeI8x2 ?_; exact HM.out; intro w7 U R; have HR := Lib.hid (HR.out.apart U HD15.out); have HQ := Lib.hid (HQ.out.apart U HD25.out); have HV := Lib.hid (show VR w7 b3 p from Blk.apart HV.out U HD35.out); have HB := Lib.hid (HB.out.trans (U.below HG5.out)); clear U R))
      go_loopw [19] (fun i wr2 => ∃ s : Nat, s ≤ 2 ∧ i = .int .i64 (s : Int) ∧ Row wr2 b1 (mdR p (c * 2 + s)) ∧ Row wr2 b2 zeroP ∧ VR wr2 b3 p ∧ Below w.heap.size w wr2) (fun i _ => 2 - (intOf i).toNat)
      case atStart => exact ⟨0, by omega, rfl, HR.out, HQ.out, HV.out, HB.out⟩
      case round =>
        obtain ⟨s, hs, rfl, hr2, hq2, hv2, hb2⟩ := hrel
        have HR := Lib.hid hr2
        have HQ := Lib.hid hq2
        have HV := Lib.hid hv2
        have HB := Lib.hid hb2
        clear hr2 hq2 hv2 hb2
        by_cases hls : s < 2
        · have gs : decide ((s : Int) < 2) = true := decide_eq_true (by omega)
          have s0 : (0 : Int) ≤ (s : Int) := by omega
          have s2 : (s : Int) < 2 := by omega
          have HSd := Lib.hid hls
          cases hk : rkB p c s
          · have HN := Lib.hid (mdR_next hls false hk)
            have HK := Lib.hid hk
            have HKt := Lib.hid (show kAt (79 + c * 2 + s) = .i8 from k_i8 (by omega) (by omega))
            clear hk
            go_wp2_with (first
              | (refine va_load rfl _ rfl b3 rfl p HV.out ?_)
              | (go_at_call 22; refine (rk_any p c s _ HP.out HA.out HC.out HSd.out (HT.out.on HB.out) (HD.out.on HB.out) (HU.out.on HB.out)).mono ?_; rintro e w8 ⟨rfl, hb⟩; rw [HK.out]; have HR := Lib.hid (HR.out.later hb); have HQ := Lib.hid (HQ.out.later hb); have HV := Lib.hid (HV.out.later hb); have HB := Lib.hid (below_on HB.out hb); clear hb)
              | (refine step_cell rfl 26 _ _ rfl b1 (79 + c * 2 + s) rfl .i8 (-1) rfl _ HR.out (by have := HC.out; have := HSd.out; omega) HKt.out size26k ?_; intro w9 U R; have HQ := Lib.hid (HQ.out.apart U (Ne.symm HD12.out)); have HV := Lib.hid (show VR w9 b3 p from Blk.apart HV.out U (Ne.symm HD13.out)); have HR := Lib.hid R; have HB := Lib.hid (HB.out.trans (U.below HG1.out)); clear U R))
            go_roundw
            case rel => exact ⟨s + 1, by have := HSd.out; omega, by go_num, by rw [← Nat.add_assoc, HN.out]; exact HR.out, HQ.out, HV.out, HB.out⟩
            case measure => simp [intOf]; have := HSd.out; omega
          · have HN := Lib.hid (mdR_next hls true hk)
            have HK := Lib.hid hk
            clear hk
            go_wp2_with (first
              | (refine va_load rfl _ rfl b3 rfl p HV.out ?_)
              | (go_at_call 22; refine (rk_any p c s _ HP.out HA.out HC.out HSd.out (HT.out.on HB.out) (HD.out.on HB.out) (HU.out.on HB.out)).mono ?_; rintro e w8 ⟨rfl, hb⟩; rw [HK.out]; have HR := Lib.hid (HR.out.later hb); have HQ := Lib.hid (HQ.out.later hb); have HV := Lib.hid (HV.out.later hb); have HB := Lib.hid (below_on HB.out hb); clear hb))
            go_roundw
            case rel => exact ⟨s + 1, by have := HSd.out; omega, by go_num, by rw [← Nat.add_assoc, HN.out]; exact HR.out, HQ.out, HV.out, HB.out⟩
            case measure => simp [intOf]; have := HSd.out; omega
        · have gs : decide ((s : Int) < 2) = false := decide_eq_false (by omega)
          have HE := Lib.hid (show (c + 1) * 2 = c * 2 + s by omega)
          clear hs hls
          go_wp2_with fail
          go_roundw
          case rel => exact ⟨c + 1, by have := HC.out; omega, by go_num, by rw [HE.out]; exact HR.out, HQ.out, HV.out, HB.out⟩
          case measure => simp [intOf]; have := HC.out; omega
    · obtain rfl : c = 2 := by omega
      have HR := Lib.hid (show Row _ b1 (mdR p 4) from HR.out)
      have HN86 := Lib.hid trivial
      have HN87 := Lib.hid trivial
      cases hps : pasB p
      · have HPs := Lib.hid hps
        have HS := Lib.hid (show mdP p = (upd (upd (upd (mdR p 4) 83 (-1)) 86 (nrZ (p 86) 0)) 87 (nrZ (p 87) 1)) by rw [HS.out, mdS_no hps])
        have HF86 := Lib.hid (show (upd (mdR p 4) 83 (-1)) 86 = p 86 from by rw [upd_other _ _ _ _ (by decide)]; unfold mdR; rw [if_neg (by omega)])
        have HF87 := Lib.hid (show upd (upd (mdR p 4) 83 (-1)) 86 (nrZ (p 86) 0) 87 = p 87 from by rw [upd_other _ _ _ _ (by decide)]; rw [upd_other _ _ _ _ (by decide)]; unfold mdR; rw [if_neg (by omega)])
        have HX86 := Lib.hid trivial
        have HY86 := Lib.hid trivial
        clear hps
        go_wp2_with (first
          | (refine va_load rfl _ rfl b3 rfl p HV.out ?_)
          | (go_at_call 23; refine (ps_any p _ HP.out HA.out (HD.out.next HB.out) (HL.out.next HB.out)).mono ?_; rintro e w8 ⟨rfl, hb⟩; rw [HPs.out]; have HR := Lib.hid (HR.out.later hb); have HQ := Lib.hid (HQ.out.later hb); have HV := Lib.hid (HV.out.later hb); have HB := Lib.hid (below_on HB.out hb); clear hb)
          | (refine step_cell rfl 26 _ _ rfl b1 (83) rfl .i8 (-1) rfl _ HR.out (by decide) rfl size26k ?_; intro w9 U R; have HQ := Lib.hid (HQ.out.apart U (Ne.symm HD12.out)); have HV := Lib.hid (show VR w9 b3 p from Blk.apart HV.out U (Ne.symm HD13.out)); have HR := Lib.hid R; have HB := Lib.hid (HB.out.trans (U.below HG1.out)); clear U R)
          | (clear HX86; refine step_get rfl 3 _ rfl b1 86 rfl Tryz.underlying3 rfl (.int .i64 (p 86)) ?_ ?_; exact (HR.out.cell 86 (by decide)).trans (by rw [HF86.out]; rfl))
          | (go_at_call 24; clear HN86; refine (near_any (p 86) 0 _).mono ?_; rintro e w8 ⟨rfl, rfl⟩)
          | (clear HY86; refine step_cell rfl 3 _ _ rfl b1 (86) rfl .i64 (nrZ (p 86) 0) rfl _ HR.out (by decide) rfl size3k ?_; intro w9 U R; have HQ := Lib.hid (HQ.out.apart U (Ne.symm HD12.out)); have HV := Lib.hid (show VR w9 b3 p from Blk.apart HV.out U (Ne.symm HD13.out)); have HR := Lib.hid R; have HB := Lib.hid (HB.out.trans (U.below HG1.out)); clear U R)
          | (refine step_get rfl 3 _ rfl b1 87 rfl Tryz.underlying3 rfl (.int .i64 (p 87)) ?_ ?_; exact (HR.out.cell 87 (by decide)).trans (by rw [HF87.out]; rfl))
          | (go_at_call 24; clear HN87; refine (near_any (p 87) 1 _).mono ?_; rintro e w8 ⟨rfl, rfl⟩)
          | (refine step_cell rfl 3 _ _ rfl b1 (87) rfl .i64 (nrZ (p 87) 1) rfl _ HR.out (by decide) rfl size3k ?_; intro w9 U R; have HQ := Lib.hid (HQ.out.apart U (Ne.symm HD12.out)); have HV := Lib.hid (show VR w9 b3 p from Blk.apart HV.out U (Ne.symm HD13.out)); have HR := Lib.hid R; have HB := Lib.hid (HB.out.trans (U.below HG1.out)); clear U R)
          | (refine step_load rfl _ rfl b1 rfl (upd (upd (upd (mdR p 4) 83 (-1)) 86 (nrZ (p 86) 0)) 87 (nrZ (p 87) 1)) ?_ ?_; exact HR.out)
          | (refine step_store rfl _ _ rfl b2 rfl zeroP (upd (upd (upd (mdR p 4) 83 (-1)) 86 (nrZ (p 86) 0)) 87 (nrZ (p 87) 1)) rfl ?_ ?_; exact HQ.out; intro w6 U R; have HQ := Lib.hid R; have HB := Lib.hid (HB.out.trans (U.below HG2.out)); clear U R))
        refine bodyPost_ret (v := .agg (posA (upd (upd (upd (mdR p 4) 83 (-1)) 86 (nrZ (p 86) 0)) 87 (nrZ (p 87) 1)))) (results_blk rfl _ _ b2 _ rfl HQ.out Tryz.underlying31 rfl (by rw [posA_size]; exact size31) rfl) rfl ⟨by rw [HS.out], HB.out⟩
      · have HPs := Lib.hid hps
        have HS := Lib.hid (show mdP p = (upd (upd (mdR p 4) 86 (nrZ (p 86) 0)) 87 (nrZ (p 87) 1)) by rw [HS.out, mdS_yes hps])
        have HF86 := Lib.hid (show (mdR p 4) 86 = p 86 from by unfold mdR; rw [if_neg (by omega)])
        have HF87 := Lib.hid (show upd (mdR p 4) 86 (nrZ (p 86) 0) 87 = p 87 from by rw [upd_other _ _ _ _ (by decide)]; unfold mdR; rw [if_neg (by omega)])
        have HX86 := Lib.hid trivial
        have HY86 := Lib.hid trivial
        clear hps
        go_wp2_with (first
          | (refine va_load rfl _ rfl b3 rfl p HV.out ?_)
          | (go_at_call 23; refine (ps_any p _ HP.out HA.out (HD.out.next HB.out) (HL.out.next HB.out)).mono ?_; rintro e w8 ⟨rfl, hb⟩; rw [HPs.out]; have HR := Lib.hid (HR.out.later hb); have HQ := Lib.hid (HQ.out.later hb); have HV := Lib.hid (HV.out.later hb); have HB := Lib.hid (below_on HB.out hb); clear hb)
          | (clear HX86; refine step_get rfl 3 _ rfl b1 86 rfl Tryz.underlying3 rfl (.int .i64 (p 86)) ?_ ?_; exact (HR.out.cell 86 (by decide)).trans (by rw [HF86.out]; rfl))
          | (go_at_call 24; clear HN86; refine (near_any (p 86) 0 _).mono ?_; rintro e w8 ⟨rfl, rfl⟩)
          | (clear HY86; refine step_cell rfl 3 _ _ rfl b1 (86) rfl .i64 (nrZ (p 86) 0) rfl _ HR.out (by decide) rfl size3k ?_; intro w9 U R; have HQ := Lib.hid (HQ.out.apart U (Ne.symm HD12.out)); have HV := Lib.hid (show VR w9 b3 p from Blk.apart HV.out U (Ne.symm HD13.out)); have HR := Lib.hid R; have HB := Lib.hid (HB.out.trans (U.below HG1.out)); clear U R)
          | (refine step_get rfl 3 _ rfl b1 87 rfl Tryz.underlying3 rfl (.int .i64 (p 87)) ?_ ?_; exact (HR.out.cell 87 (by decide)).trans (by rw [HF87.out]; rfl))
          | (go_at_call 24; clear HN87; refine (near_any (p 87) 1 _).mono ?_; rintro e w8 ⟨rfl, rfl⟩)
          | (refine step_cell rfl 3 _ _ rfl b1 (87) rfl .i64 (nrZ (p 87) 1) rfl _ HR.out (by decide) rfl size3k ?_; intro w9 U R; have HQ := Lib.hid (HQ.out.apart U (Ne.symm HD12.out)); have HV := Lib.hid (show VR w9 b3 p from Blk.apart HV.out U (Ne.symm HD13.out)); have HR := Lib.hid R; have HB := Lib.hid (HB.out.trans (U.below HG1.out)); clear U R)
          | (refine step_load rfl _ rfl b1 rfl (upd (upd (mdR p 4) 86 (nrZ (p 86) 0)) 87 (nrZ (p 87) 1)) ?_ ?_; exact HR.out)
          | (refine step_store rfl _ _ rfl b2 rfl zeroP (upd (upd (mdR p 4) 86 (nrZ (p 86) 0)) 87 (nrZ (p 87) 1)) rfl ?_ ?_; exact HQ.out; intro w6 U R; have HQ := Lib.hid R; have HB := Lib.hid (HB.out.trans (U.below HG2.out)); clear U R))
        refine bodyPost_ret (v := .agg (posA (upd (upd (mdR p 4) 86 (nrZ (p 86) 0)) 87 (nrZ (p 87) 1)))) (results_blk rfl _ _ b2 _ rfl HQ.out Tryz.underlying31 rfl (by rw [posA_size]; exact size31) rfl) rfl ⟨by rw [HS.out], HB.out⟩
theorem mend_any (p : Nat → Int) (w : World) (hp : FitP p) (hT : TabVar w) (hD : TabDb w) (hL : TabLead w) (hU : TabUs w) : Calls Tryz.prog 9 #[.agg (posA p)] w (PosL (mdP p) w) := by
  cases ha : argB p
  · exact mend_no p w hp hT hD hL hU ha
  · exact mend_yes p w hp hT hD hL hU ha
end Go.Proofs.YtigkbccpkepdmaaGreatDoor
