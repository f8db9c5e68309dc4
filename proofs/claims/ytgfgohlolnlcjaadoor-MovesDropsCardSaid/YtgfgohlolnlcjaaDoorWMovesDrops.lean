/-
  The walk of MovesDrops.
-/
import Derived.Test.YtgfgohlolnlcjaaDoorMvG
import Derived.Test.YtgfgohlolnlcjaaDoorMvLaid
import Derived.IntWalk
import Derived.WalkKit
import Derived.OpenShut
namespace Go.Proofs.YtgfgohlolnlcjaaDoor.movesDrops
open Go.RowKit
set_option linter.unusedVariables false
set_option linter.unusedSimpArgs false
theorem wpl_val {P : Program} {ops : Array Oper} {Q : Exit → Act → World → Prop} {rest : List Oper} {o : Oper} {a : Act} {w : World} (v : Value) (hw : Region.wanted o (yielded ops a.tmps) = true) (hr : (execOp a.eval o).run P w = .ok (.value v) w) (h : wpList P ops Q rest (a.put o.dst v) w) : wpList P ops Q (o :: rest) a w :=
  wpList_want hw fun K hK => (wp_value hr (hK _ _ h)).out
theorem mvT_drop {p : Nat → Int} {s k : Int} (hsm : smB p = true) (hq : sqB s = true) (h1 : 1 ≤ k) (h5 : k ≤ 5) : mvT p ⟨s, s, 0, k, false⟩ = leF (mkZ 0 k) ++ 64 :: sqM s := by
  unfold mvT
  rw [hsm]
  have e : (k != 0) = true := by rw [bne_iff_ne]; omega
  show (bif k != 0 then drT ⟨s, s, 0, k, false⟩ else _) = _
  rw [e]
  show drT ⟨s, s, 0, k, false⟩ = _
  have d : drB ⟨s, s, 0, k, false⟩ = true := by
    unfold drB
    simp only [Bool.and_eq_true, beq_iff_eq, Bool.not_eq_true', bne_iff_ne, ne_eq]
    exact ⟨⟨⟨⟨⟨hq, trivial⟩, trivial⟩, trivial⟩, mkB_true.2 ⟨by decide, h1, by omega⟩⟩, by omega⟩
  unfold drT
  rw [d]; rfl
theorem mvT_nodrop {p : Nat → Int} {s k : Int} (h0 : 0 ≤ k) (h : k = 0 ∨ 5 < k) : mvT p ⟨s, s, 0, k, false⟩ = [] := by
  cases hl : mvT p ⟨s, s, 0, k, false⟩ with
  | nil => rfl
  | cons x r =>
    exfalso
    have hne : x :: r ≠ [] := by simp
    unfold mvT at hl
    cases hsm : smB p
    · rw [hsm] at hl; cases hl
    · rw [hsm] at hl
      have hl : (bif k != 0 then drT ⟨s, s, 0, k, false⟩ else plT p ⟨s, s, 0, k, false⟩) = x :: r := hl
      cases e : (k != 0)
      · rw [e] at hl
        have c := (pl_parts hl hne).1
        simp at c
      · rw [e] at hl
        have c := dr_parts hl hne
        have c5 : 1 ≤ k ∧ k ≤ 5 := ⟨c.2.2.2.2.1, c.2.2.2.2.2.1⟩
        have : k ≠ 0 := by rwa [bne_iff_ne] at e
        omega
theorem drop_no {p : Nat → Int} {s : Int} {x : UInt8} (hx : x.toNat ≠ 80 ∧ x.toNat ≠ 78 ∧ x.toNat ≠ 66 ∧ x.toNat ≠ 82 ∧ x.toNat ≠ 81) : mvP p (x :: 64 :: sqM s) = none := by
  cases h : mvP p (x :: 64 :: sqM s) with
  | none => rfl
  | some m =>
    exfalso
    obtain ⟨hl, hne, hsm⟩ := mv_text h
    unfold mvT at hl
    rw [hsm] at hl
    have hl : (bif m.dr != 0 then drT m else bif m.ca then csT p m else plT p m) = x :: 64 :: sqM s := hl
    cases hd : (m.dr != 0)
    · rw [hd] at hl
      have hl : (bif m.ca then csT p m else plT p m) = x :: 64 :: sqM s := hl
      cases hc : m.ca
      · rw [hc] at hl
        obtain ⟨c1, c2, c3, c4, c5⟩ := pl_parts hl hne
        rw [enL_yes c1] at c5
        simp only [Bool.and_eq_true] at c1
        obtain ⟨a, b, k1, k2, k3, k4, k5⟩ := sqM_two c1.1.1
        rw [k1] at c5
        have h2 := List.head_eq_of_cons_eq (List.tail_eq_of_cons_eq c5)
        have : b.toNat = 64 := by rw [← h2]; rfl
        omega
      · rw [hc] at hl
        obtain ⟨a, b, r, k1, k2, k3, k4⟩ := cs_head hl hne
        have h2 := List.head_eq_of_cons_eq (List.tail_eq_of_cons_eq k1)
        have : b.toNat = 64 := by rw [← h2]; rfl
        omega
    · rw [hd] at hl
      obtain ⟨c1, c2, c3, c4, c5, c6, e⟩ := dr_parts hl hne
      have key : ∀ n : Nat, n < 6 → 1 ≤ n → (match leF (mkZ 0 (n : Int)) with | [y] => decide (y.toNat = 80 ∨ y.toNat = 78 ∨ y.toNat = 66 ∨ y.toNat = 82 ∨ y.toNat = 81) | _ => false) = true := by decide +kernel
      obtain ⟨n, hn⟩ := Int.eq_ofNat_of_zero_le (show 0 ≤ m.dr by omega)
      rw [hn] at e c5 c6
      have := key n (by omega) (by omega)
      split at this
      · rename_i y hy
        rw [hy] at e
        have h1 : x = y := List.head_eq_of_cons_eq e
        have := of_decide_eq_true this
        rw [← h1] at this
        omega
      · cases this
theorem drop_yes {p : Nat → Int} {s k : Int} {x : UInt8} (h0 : 0 ≤ p 78) (hsm : smB p = true) (hq : sqB s = true) (h1 : 1 ≤ k) (h5 : k ≤ 5) (hx : leF (mkZ 0 k) = [x]) : mvP p (x :: 64 :: sqM s) = some ⟨s, s, 0, k, false⟩ :=
  mv_back (m := ⟨s, s, 0, k, false⟩) h0 (Int.le_refl 0) (by rw [mvT_drop hsm hq h1 h5, hx]; rfl) (by simp)
theorem byZ_nat8 {x : Int} (h0 : 0 ≤ x) (h1 : x ≤ 255) : ((byZ x).toNat : Int) = x := by
  unfold byZ
  rw [UInt8.toNat_ofNat', Nat.mod_eq_of_lt (show x.toNat < 2 ^ 8 by omega)]
  omega
theorem cut_kind (n : Nat) (w : World) (h1 : 1 ≤ n) (h : n ≤ 5) :
    (Instr.slice 9 (.string ⟨#[46, 80, 78, 66, 82, 81]⟩) (some (.int .u8 (n : Int))) (some (.int .u8 ((n : Int) + 1))) none).run Tryd.prog w = .ok (.string (bz (leF (mkZ 0 (n : Int))))) w := by
  rw [run_slice_string _ _ _ _ _ _ _ Tryd.underlying9 (by omega) (by omega) (by show (n : Int) + 1 ≤ ((6 : Nat) : Int); omega)]
  rw [show ((n : Int) + 1).toNat = n + 1 by omega, ← leF_bz]
  have key : ∀ n : Nat, n < 6 → 1 ≤ n → (⟨#[46, 80, 78, 66, 82, 81]⟩ : ByteArray).extract n (n + 1) = letZ (mkZ 0 (n : Int)) := by decide +kernel
  rw [show ((n : Int)).toNat = n from rfl, key n (by omega) h1]
set_option maxRecDepth 100000 in
set_option maxHeartbeats 1000000 in
theorem dr_out0 (p : Nat → Int) (s k b : Int) (w : World) (hp : FitM p) (hs : -128 ≤ s ∧ s ≤ 127) (hk : 0 ≤ k ∧ k ≤ 255) (hb : 0 ≤ b ∧ b ≤ 255) (h1 : decide (s < 0) = true) (hG : TabGo w) (hM : TabMv w) (hV : TabVar w) (hK : TabKn w) : Calls Tryd.prog 8 #[.agg (posA p), .int .i8 s, .int .u8 k, .int .u8 b] w (BoL true w) := by
  have HG := Lib.hid hG
  have HMx := Lib.hid hM
  have HV := Lib.hid hV
  have HK := Lib.hid hK
  have HB := Lib.hid (Below.refl w.heap.size w)
  have HFp := Lib.hid hp
  clear hG hM hV hK hp hs hk hb
  go_enter Tryd.func8, Tryd.ntmps8
  go_wp2_with (first
      | (refine step_box rfl _ rfl p rfl ?_; intro b0 w1 N R; have HB := Lib.hid (HB.out.trans (N.below.mono HB.out.size)); have HR := Lib.hid R; clear N R)
      | (go_at_call 13; refine (mawake_any _ (HG.out.on HB.out) (HMx.out.on HB.out) (HV.out.on HB.out) (HK.out.on HB.out)).mono ?_; rintro e w3 ⟨rfl, hb⟩; have HR := Lib.hid (HR.out.later hb); have HB := Lib.hid (below_on HB.out hb); clear hb)
      | (refine step_get rfl 5 _ rfl b0 0 rfl Tryd.underlying5 rfl (.int .u8 (p 0)) ?_ ?_; exact HR.out.cell 0 (by decide))
      | (refine step_get rfl 5 _ rfl b0 78 rfl Tryd.underlying5 rfl (.int .u8 (p 78)) ?_ ?_; exact HR.out.cell 78 (by decide)))
  exact bodyPost_ret (results_tmp rfl _ _ _) rfl ⟨rfl, HB.out⟩
set_option maxRecDepth 100000 in
set_option maxHeartbeats 1000000 in
theorem dr_out1 (p : Nat → Int) (s k b : Int) (w : World) (hp : FitM p) (hs : -128 ≤ s ∧ s ≤ 127) (hk : 0 ≤ k ∧ k ≤ 255) (hb : 0 ≤ b ∧ b ≤ 255) (h1 : decide (s < 0) = false) (h2 : decide (63 < s) = true) (hG : TabGo w) (hM : TabMv w) (hV : TabVar w) (hK : TabKn w) : Calls Tryd.prog 8 #[.agg (posA p), .int .i8 s, .int .u8 k, .int .u8 b] w (BoL true w) := by
  have HG := Lib.hid hG
  have HMx := Lib.hid hM
  have HV := Lib.hid hV
  have HK := Lib.hid hK
  have HB := Lib.hid (Below.refl w.heap.size w)
  have HFp := Lib.hid hp
  clear hG hM hV hK hp hs hk hb
  go_enter Tryd.func8, Tryd.ntmps8
  go_wp2_with (first
      | (refine step_box rfl _ rfl p rfl ?_; intro b0 w1 N R; have HB := Lib.hid (HB.out.trans (N.below.mono HB.out.size)); have HR := Lib.hid R; clear N R)
      | (go_at_call 13; refine (mawake_any _ (HG.out.on HB.out) (HMx.out.on HB.out) (HV.out.on HB.out) (HK.out.on HB.out)).mono ?_; rintro e w3 ⟨rfl, hb⟩; have HR := Lib.hid (HR.out.later hb); have HB := Lib.hid (below_on HB.out hb); clear hb)
      | (refine step_get rfl 5 _ rfl b0 0 rfl Tryd.underlying5 rfl (.int .u8 (p 0)) ?_ ?_; exact HR.out.cell 0 (by decide))
      | (refine step_get rfl 5 _ rfl b0 78 rfl Tryd.underlying5 rfl (.int .u8 (p 78)) ?_ ?_; exact HR.out.cell 78 (by decide)))
  exact bodyPost_ret (results_tmp rfl _ _ _) rfl ⟨rfl, HB.out⟩
set_option maxRecDepth 100000 in
set_option maxHeartbeats 1000000 in
theorem dr_out2 (p : Nat → Int) (s k b : Int) (w : World) (hp : FitM p) (hs : -128 ≤ s ∧ s ≤ 127) (hk : 0 ≤ k ∧ k ≤ 255) (hb : 0 ≤ b ∧ b ≤ 255) (h1 : decide (s < 0) = false) (h2 : decide (63 < s) = false) (h3 : decide (9 ≤ p 0) = true) (hG : TabGo w) (hM : TabMv w) (hV : TabVar w) (hK : TabKn w) : Calls Tryd.prog 8 #[.agg (posA p), .int .i8 s, .int .u8 k, .int .u8 b] w (BoL true w) := by
  have HG := Lib.hid hG
  have HMx := Lib.hid hM
  have HV := Lib.hid hV
  have HK := Lib.hid hK
  have HB := Lib.hid (Below.refl w.heap.size w)
  have HFp := Lib.hid hp
  clear hG hM hV hK hp hs hk hb
  go_enter Tryd.func8, Tryd.ntmps8
  go_wp2_with (first
      | (refine step_box rfl _ rfl p rfl ?_; intro b0 w1 N R; have HB := Lib.hid (HB.out.trans (N.below.mono HB.out.size)); have HR := Lib.hid R; clear N R)
      | (go_at_call 13; refine (mawake_any _ (HG.out.on HB.out) (HMx.out.on HB.out) (HV.out.on HB.out) (HK.out.on HB.out)).mono ?_; rintro e w3 ⟨rfl, hb⟩; have HR := Lib.hid (HR.out.later hb); have HB := Lib.hid (below_on HB.out hb); clear hb)
      | (refine step_get rfl 5 _ rfl b0 0 rfl Tryd.underlying5 rfl (.int .u8 (p 0)) ?_ ?_; exact HR.out.cell 0 (by decide))
      | (refine step_get rfl 5 _ rfl b0 78 rfl Tryd.underlying5 rfl (.int .u8 (p 78)) ?_ ?_; exact HR.out.cell 78 (by decide)))
  exact bodyPost_ret (results_tmp rfl _ _ _) rfl ⟨rfl, HB.out⟩
set_option maxRecDepth 100000 in
set_option maxHeartbeats 1000000 in
theorem dr_out3 (p : Nat → Int) (s k b : Int) (w : World) (hp : FitM p) (hs : -128 ≤ s ∧ s ≤ 127) (hk : 0 ≤ k ∧ k ≤ 255) (hb : 0 ≤ b ∧ b ≤ 255) (h1 : decide (s < 0) = false) (h2 : decide (63 < s) = false) (h3 : decide (9 ≤ p 0) = false) (h4 : decide (1 < p 78) = true) (hG : TabGo w) (hM : TabMv w) (hV : TabVar w) (hK : TabKn w) : Calls Tryd.prog 8 #[.agg (posA p), .int .i8 s, .int .u8 k, .int .u8 b] w (BoL true w) := by
  have HG := Lib.hid hG
  have HMx := Lib.hid hM
  have HV := Lib.hid hV
  have HK := Lib.hid hK
  have HB := Lib.hid (Below.refl w.heap.size w)
  have HFp := Lib.hid hp
  clear hG hM hV hK hp hs hk hb
  go_enter Tryd.func8, Tryd.ntmps8
  go_wp2_with (first
      | (refine step_box rfl _ rfl p rfl ?_; intro b0 w1 N R; have HB := Lib.hid (HB.out.trans (N.below.mono HB.out.size)); have HR := Lib.hid R; clear N R)
      | (go_at_call 13; refine (mawake_any _ (HG.out.on HB.out) (HMx.out.on HB.out) (HV.out.on HB.out) (HK.out.on HB.out)).mono ?_; rintro e w3 ⟨rfl, hb⟩; have HR := Lib.hid (HR.out.later hb); have HB := Lib.hid (below_on HB.out hb); clear hb)
      | (refine step_get rfl 5 _ rfl b0 0 rfl Tryd.underlying5 rfl (.int .u8 (p 0)) ?_ ?_; exact HR.out.cell 0 (by decide))
      | (refine step_get rfl 5 _ rfl b0 78 rfl Tryd.underlying5 rfl (.int .u8 (p 78)) ?_ ?_; exact HR.out.cell 78 (by decide)))
  exact bodyPost_ret (results_tmp rfl _ _ _) rfl ⟨rfl, HB.out⟩
set_option maxRecDepth 100000 in
set_option maxHeartbeats 1000000 in
theorem dr_z0 (p : Nat → Int) (s k b : Int) (w : World) (hp : FitM p) (hs : -128 ≤ s ∧ s ≤ 127) (hk : 0 ≤ k ∧ k ≤ 255) (hb : 0 ≤ b ∧ b ≤ 255) (h1 : decide (s < 0) = false) (h2 : decide (63 < s) = false) (h3 : decide (9 ≤ p 0) = false) (h4 : decide (1 < p 78) = false) (hk0 : (k == 0) = true) (hbv : b = 80) (hG : TabGo w) (hM : TabMv w) (hV : TabVar w) (hK : TabKn w) : Calls Tryd.prog 8 #[.agg (posA p), .int .i8 s, .int .u8 k, .int .u8 b] w (BoL true w) := by
  have HG := Lib.hid hG
  have HMx := Lib.hid hM
  have HV := Lib.hid hV
  have HK := Lib.hid hK
  have HB := Lib.hid (Below.refl w.heap.size w)
  have HFp := Lib.hid hp
  have hsm : smB p = true := by
    unfold smB
    rw [Bool.and_eq_true, decide_eq_true_eq, decide_eq_true_eq]
    have a := of_decide_eq_false h3
    have c := of_decide_eq_false h4
    omega
  have hq : sqB s = true := by
    rw [sqB_true]
    have a := of_decide_eq_false h1
    have c := of_decide_eq_false h2
    omega
  have ws : IntKind.i64.wrap s = s := IntWalk.i64_in s (by omega)
  obtain ⟨q, hq1⟩ : ∃ q, textZ s = q := ⟨_, rfl⟩
  have HQ1 := Lib.hid hq1
  have qs : q.size ≤ 2 := by rw [← hq1]; exact sqM_size s
  obtain ⟨x, hx⟩ : ∃ x, bz (mvT p ⟨s, s, 0, k, false⟩) = x := ⟨_, rfl⟩
  have HX := Lib.hid hx
  have HFm := Lib.hid (show FitV ⟨s, s, 0, k, false⟩ from ⟨hs, hs, (by show (0 : Int) ≤ 0 ∧ (0 : Int) ≤ 255; decide), hk⟩)
  obtain ⟨u, hu⟩ : ∃ u, two b.toNat 64 = u := ⟨_, rfl⟩
  have hcv : ∀ w : World, (convert 47 9 (.slice (some ⟨w.heap.size, 0, none⟩) 2 2)).run Tryd.prog (w.alloc (.cells #[.int .u8 b, .int .u8 64] 5)) = .ok (.string u) (w.alloc (.cells #[.int .u8 b, .int .u8 64] 5)) := fun w => by rw [← hu]; exact conv2 w b 64
  have us : u.size = 2 := by rw [← hu]; rfl
  have HLt := Lib.hid (show bz (byZ b :: 64 :: sqM s) = u ++ q by
    rw [← hu, ← hq1, sqM_bz, show byZ b :: 64 :: sqM s = [byZ b, 64] ++ sqM s from rfl, ← bz_app]; rfl)
  have HLn := Lib.hid (show (byZ b :: 64 :: sqM s).length ≤ 10000 by
    have := sqM_len s
    simp only [List.length_cons]; omega)
  have k9 : ¬ (9223372036854775807 < u.size + q.size) := by omega
  have k8 : ¬ (9223372036854775807 < 2 + q.size) := by omega
  have ex : x.toList.isEmpty = true := by
    rw [← hx, bz_toList, mvT_nodrop hk.1 (Or.inl (by simpa using hk0))]; rfl
  have HPv : mvP p (byZ b :: 64 :: sqM s) = some ⟨s, s, 0, 1, false⟩ := by rw [hbv]; exact drop_yes hp.turn.1 hsm hq (by decide) (by decide) (by decide +kernel)
  have HP := Lib.hid (show pmO (mvP p (byZ b :: 64 :: sqM s)) = ⟨s, s, 0, 1, false⟩ by rw [HPv]; rfl)
  have HE := Lib.hid (show enO p (mvP p (byZ b :: 64 :: sqM s)) = 0 by rw [HPv]; rfl)
  clear hG hM hV hK hp hs hq1 hx hu HPv hsm hq qs us
  subst hbv
  have HLive := Lib.hid trivial
  go_enter Tryd.func8, Tryd.ntmps8
  go_wp2_with (first
      | (have HL9 := HLive; clear HL9; refine step_box rfl _ rfl p rfl ?_; intro b0 w1 N R; have HB := Lib.hid (HB.out.trans (N.below.mono HB.out.size)); have HR := Lib.hid R; clear N R)
      | (have HL9 := HLive; clear HL9; go_at_call 13; refine (mawake_any _ (HG.out.on HB.out) (HMx.out.on HB.out) (HV.out.on HB.out) (HK.out.on HB.out)).mono ?_; rintro e w3 ⟨rfl, hb⟩; have HR := Lib.hid (HR.out.later hb); have HB := Lib.hid (below_on HB.out hb); clear hb)
      | (have HL9 := HLive; clear HL9; refine step_get rfl 5 _ rfl b0 0 rfl Tryd.underlying5 rfl (.int .u8 (p 0)) ?_ ?_; exact HR.out.cell 0 (by decide))
      | (have HL9 := HLive; clear HL9; refine step_get rfl 5 _ rfl b0 78 rfl Tryd.underlying5 rfl (.int .u8 (p 78)) ?_ ?_; exact HR.out.cell 78 (by decide))
      | (have HL9 := HLive; clear HL9; go_at_call 14; refine (text_any s _).mono ?_; rintro e w3 ⟨rfl, hb⟩; rw [HQ1.out]; have HR := Lib.hid (HR.out.later hb); have HB := Lib.hid (below_on HB.out hb); clear hb)
      | (have HL9 := HLive; clear HL9; refine step_load rfl _ rfl b0 rfl p ?_ ?_; exact HR.out)
      | (have HL9 := HLive; clear HL9; go_at_call 9; refine (mvText_any p ⟨s, s, 0, k, false⟩ _ HFp.out HFm.out (HG.out.on HB.out)).mono ?_; rintro e w4 ⟨rfl, hb⟩; rw [HX.out]; have HR := Lib.hid (HR.out.later hb); have HB := Lib.hid (below_on HB.out hb); clear hb)
      | (have HL9 := HLive; clear HL9; go_at_call 11; rw [← HLt.out]; have HR := Lib.hid (HR.out.later (New.alloc _ (Obj.cells #[Value.int .u8 80, Value.int .u8 64] 5)).below); have HB := Lib.hid (HB.out.trans ((New.alloc _ (Obj.cells #[Value.int .u8 80, Value.int .u8 64] 5)).below.mono HB.out.size)); refine (mvParse_any p _ _ HLn.out HFp.out (HG.out.on HB.out) (HMx.out.on HB.out)).mono ?_; rintro e w5 ⟨rfl, hb⟩; rw [HP.out, HE.out, HLt.out]; have HR := Lib.hid (HR.out.later hb); have HB := Lib.hid (below_on HB.out hb); clear hb)
      | (have HL9 := HLive; clear HL9; refine blk_alloc rfl 33 rfl (mvA mv0) zeroMv ?_; intro b11 w6 N R; have HGb11 := Lib.hid (show w.heap.size ≤ b11 by rw [N.at_]; exact HB.out.size); have HDHRb11 := Lib.hid (show b0 ≠ b11 by rw [N.at_]; exact Nat.ne_of_lt HR.out.lt); have HR := Lib.hid (HR.out.later N.below); have HB := Lib.hid (HB.out.trans (N.below.mono HB.out.size)); have HQ := Lib.hid R; clear N R)
      | (clear HLive; refine blk_store rfl 33 _ _ rfl b11 rfl (mvA mv0) (mvA ⟨s, s, 0, 1, false⟩) rfl ?_ rfl (mv_one _) sizeMv ?_; exact HQ.out; intro w7 U R; have c3 : w7.cell? ⟨b11, 3, none⟩ = some (.int .u8 1) := Blk.cell R 3; have c0 : w7.cell? ⟨b11, 0, none⟩ = some (.int .i8 s) := Blk.cell R 0; have c1 : w7.cell? ⟨b11, 1, none⟩ = some (.int .i8 s) := Blk.cell R 1; have c2 : w7.cell? ⟨b11, 2, none⟩ = some (.int .u8 0) := Blk.cell R 2; have c4 : w7.cell? ⟨b11, 4, none⟩ = some (.bool false) := Blk.cell R 4; have HR := Lib.hid (HR.out.apart U HDHRb11.out); have HB := Lib.hid (HB.out.trans (U.below HGb11.out)); have HQ := Lib.hid R; clear U R))
  exact bodyPost_ret (results_tmp rfl _ _ _) rfl ⟨by simp, HB.out⟩
set_option maxRecDepth 100000 in
set_option maxHeartbeats 1000000 in
theorem dr_z1 (p : Nat → Int) (s k b : Int) (w : World) (hp : FitM p) (hs : -128 ≤ s ∧ s ≤ 127) (hk : 0 ≤ k ∧ k ≤ 255) (hb : 0 ≤ b ∧ b ≤ 255) (h1 : decide (s < 0) = false) (h2 : decide (63 < s) = false) (h3 : decide (9 ≤ p 0) = false) (h4 : decide (1 < p 78) = false) (hk0 : (k == 0) = true) (hbv : b = 78) (hG : TabGo w) (hM : TabMv w) (hV : TabVar w) (hK : TabKn w) : Calls Tryd.prog 8 #[.agg (posA p), .int .i8 s, .int .u8 k, .int .u8 b] w (BoL true w) := by
  have HG := Lib.hid hG
  have HMx := Lib.hid hM
  have HV := Lib.hid hV
  have HK := Lib.hid hK
  have HB := Lib.hid (Below.refl w.heap.size w)
  have HFp := Lib.hid hp
  have hsm : smB p = true := by
    unfold smB
    rw [Bool.and_eq_true, decide_eq_true_eq, decide_eq_true_eq]
    have a := of_decide_eq_false h3
    have c := of_decide_eq_false h4
    omega
  have hq : sqB s = true := by
    rw [sqB_true]
    have a := of_decide_eq_false h1
    have c := of_decide_eq_false h2
    omega
  have ws : IntKind.i64.wrap s = s := IntWalk.i64_in s (by omega)
  obtain ⟨q, hq1⟩ : ∃ q, textZ s = q := ⟨_, rfl⟩
  have HQ1 := Lib.hid hq1
  have qs : q.size ≤ 2 := by rw [← hq1]; exact sqM_size s
  obtain ⟨x, hx⟩ : ∃ x, bz (mvT p ⟨s, s, 0, k, false⟩) = x := ⟨_, rfl⟩
  have HX := Lib.hid hx
  have HFm := Lib.hid (show FitV ⟨s, s, 0, k, false⟩ from ⟨hs, hs, (by show (0 : Int) ≤ 0 ∧ (0 : Int) ≤ 255; decide), hk⟩)
  obtain ⟨u, hu⟩ : ∃ u, two b.toNat 64 = u := ⟨_, rfl⟩
  have hcv : ∀ w : World, (convert 47 9 (.slice (some ⟨w.heap.size, 0, none⟩) 2 2)).run Tryd.prog (w.alloc (.cells #[.int .u8 b, .int .u8 64] 5)) = .ok (.string u) (w.alloc (.cells #[.int .u8 b, .int .u8 64] 5)) := fun w => by rw [← hu]; exact conv2 w b 64
  have us : u.size = 2 := by rw [← hu]; rfl
  have HLt := Lib.hid (show bz (byZ b :: 64 :: sqM s) = u ++ q by
    rw [← hu, ← hq1, sqM_bz, show byZ b :: 64 :: sqM s = [byZ b, 64] ++ sqM s from rfl, ← bz_app]; rfl)
  have HLn := Lib.hid (show (byZ b :: 64 :: sqM s).length ≤ 10000 by
    have := sqM_len s
    simp only [List.length_cons]; omega)
  have k9 : ¬ (9223372036854775807 < u.size + q.size) := by omega
  have k8 : ¬ (9223372036854775807 < 2 + q.size) := by omega
  have ex : x.toList.isEmpty = true := by
    rw [← hx, bz_toList, mvT_nodrop hk.1 (Or.inl (by simpa using hk0))]; rfl
  have HPv : mvP p (byZ b :: 64 :: sqM s) = some ⟨s, s, 0, 2, false⟩ := by rw [hbv]; exact drop_yes hp.turn.1 hsm hq (by decide) (by decide) (by decide +kernel)
  have HP := Lib.hid (show pmO (mvP p (byZ b :: 64 :: sqM s)) = ⟨s, s, 0, 2, false⟩ by rw [HPv]; rfl)
  have HE := Lib.hid (show enO p (mvP p (byZ b :: 64 :: sqM s)) = 0 by rw [HPv]; rfl)
  clear hG hM hV hK hp hs hq1 hx hu HPv hsm hq qs us
  subst hbv
  have HLive := Lib.hid trivial
  go_enter Tryd.func8, Tryd.ntmps8
  go_wp2_with (first
      | (have HL9 := HLive; clear HL9; refine step_box rfl _ rfl p rfl ?_; intro b0 w1 N R; have HB := Lib.hid (HB.out.trans (N.below.mono HB.out.size)); have HR := Lib.hid R; clear N R)
      | (have HL9 := HLive; clear HL9; go_at_call 13; refine (mawake_any _ (HG.out.on HB.out) (HMx.out.on HB.out) (HV.out.on HB.out) (HK.out.on HB.out)).mono ?_; rintro e w3 ⟨rfl, hb⟩; have HR := Lib.hid (HR.out.later hb); have HB := Lib.hid (below_on HB.out hb); clear hb)
      | (have HL9 := HLive; clear HL9; refine step_get rfl 5 _ rfl b0 0 rfl Tryd.underlying5 rfl (.int .u8 (p 0)) ?_ ?_; exact HR.out.cell 0 (by decide))
      | (have HL9 := HLive; clear HL9; refine step_get rfl 5 _ rfl b0 78 rfl Tryd.underlying5 rfl (.int .u8 (p 78)) ?_ ?_; exact HR.out.cell 78 (by decide))
      | (have HL9 := HLive; clear HL9; go_at_call 14; refine (text_any s _).mono ?_; rintro e w3 ⟨rfl, hb⟩; rw [HQ1.out]; have HR := Lib.hid (HR.out.later hb); have HB := Lib.hid (below_on HB.out hb); clear hb)
      | (have HL9 := HLive; clear HL9; refine step_load rfl _ rfl b0 rfl p ?_ ?_; exact HR.out)
      | (have HL9 := HLive; clear HL9; go_at_call 9; refine (mvText_any p ⟨s, s, 0, k, false⟩ _ HFp.out HFm.out (HG.out.on HB.out)).mono ?_; rintro e w4 ⟨rfl, hb⟩; rw [HX.out]; have HR := Lib.hid (HR.out.later hb); have HB := Lib.hid (below_on HB.out hb); clear hb)
      | (have HL9 := HLive; clear HL9; go_at_call 11; rw [← HLt.out]; have HR := Lib.hid (HR.out.later (New.alloc _ (Obj.cells #[Value.int .u8 78, Value.int .u8 64] 5)).below); have HB := Lib.hid (HB.out.trans ((New.alloc _ (Obj.cells #[Value.int .u8 78, Value.int .u8 64] 5)).below.mono HB.out.size)); refine (mvParse_any p _ _ HLn.out HFp.out (HG.out.on HB.out) (HMx.out.on HB.out)).mono ?_; rintro e w5 ⟨rfl, hb⟩; rw [HP.out, HE.out, HLt.out]; have HR := Lib.hid (HR.out.later hb); have HB := Lib.hid (below_on HB.out hb); clear hb)
      | (have HL9 := HLive; clear HL9; refine blk_alloc rfl 33 rfl (mvA mv0) zeroMv ?_; intro b11 w6 N R; have HGb11 := Lib.hid (show w.heap.size ≤ b11 by rw [N.at_]; exact HB.out.size); have HDHRb11 := Lib.hid (show b0 ≠ b11 by rw [N.at_]; exact Nat.ne_of_lt HR.out.lt); have HR := Lib.hid (HR.out.later N.below); have HB := Lib.hid (HB.out.trans (N.below.mono HB.out.size)); have HQ := Lib.hid R; clear N R)
      | (clear HLive; refine blk_store rfl 33 _ _ rfl b11 rfl (mvA mv0) (mvA ⟨s, s, 0, 2, false⟩) rfl ?_ rfl (mv_one _) sizeMv ?_; exact HQ.out; intro w7 U R; have c3 : w7.cell? ⟨b11, 3, none⟩ = some (.int .u8 2) := Blk.cell R 3; have c0 : w7.cell? ⟨b11, 0, none⟩ = some (.int .i8 s) := Blk.cell R 0; have c1 : w7.cell? ⟨b11, 1, none⟩ = some (.int .i8 s) := Blk.cell R 1; have c2 : w7.cell? ⟨b11, 2, none⟩ = some (.int .u8 0) := Blk.cell R 2; have c4 : w7.cell? ⟨b11, 4, none⟩ = some (.bool false) := Blk.cell R 4; have HR := Lib.hid (HR.out.apart U HDHRb11.out); have HB := Lib.hid (HB.out.trans (U.below HGb11.out)); have HQ := Lib.hid R; clear U R))
  exact bodyPost_ret (results_tmp rfl _ _ _) rfl ⟨by simp, HB.out⟩
set_option maxRecDepth 100000 in
set_option maxHeartbeats 1000000 in
theorem dr_z2 (p : Nat → Int) (s k b : Int) (w : World) (hp : FitM p) (hs : -128 ≤ s ∧ s ≤ 127) (hk : 0 ≤ k ∧ k ≤ 255) (hb : 0 ≤ b ∧ b ≤ 255) (h1 : decide (s < 0) = false) (h2 : decide (63 < s) = false) (h3 : decide (9 ≤ p 0) = false) (h4 : decide (1 < p 78) = false) (hk0 : (k == 0) = true) (hbv : b = 66) (hG : TabGo w) (hM : TabMv w) (hV : TabVar w) (hK : TabKn w) : Calls Tryd.prog 8 #[.agg (posA p), .int .i8 s, .int .u8 k, .int .u8 b] w (BoL true w) := by
  have HG := Lib.hid hG
  have HMx := Lib.hid hM
  have HV := Lib.hid hV
  have HK := Lib.hid hK
  have HB := Lib.hid (Below.refl w.heap.size w)
  have HFp := Lib.hid hp
  have hsm : smB p = true := by
    unfold smB
    rw [Bool.and_eq_true, decide_eq_true_eq, decide_eq_true_eq]
    have a := of_decide_eq_false h3
    have c := of_decide_eq_false h4
    omega
  have hq : sqB s = true := by
    rw [sqB_true]
    have a := of_decide_eq_false h1
    have c := of_decide_eq_false h2
    omega
  have ws : IntKind.i64.wrap s = s := IntWalk.i64_in s (by omega)
  obtain ⟨q, hq1⟩ : ∃ q, textZ s = q := ⟨_, rfl⟩
  have HQ1 := Lib.hid hq1
  have qs : q.size ≤ 2 := by rw [← hq1]; exact sqM_size s
  obtain ⟨x, hx⟩ : ∃ x, bz (mvT p ⟨s, s, 0, k, false⟩) = x := ⟨_, rfl⟩
  have HX := Lib.hid hx
  have HFm := Lib.hid (show FitV ⟨s, s, 0, k, false⟩ from ⟨hs, hs, (by show (0 : Int) ≤ 0 ∧ (0 : Int) ≤ 255; decide), hk⟩)
  obtain ⟨u, hu⟩ : ∃ u, two b.toNat 64 = u := ⟨_, rfl⟩
  have hcv : ∀ w : World, (convert 47 9 (.slice (some ⟨w.heap.size, 0, none⟩) 2 2)).run Tryd.prog (w.alloc (.cells #[.int .u8 b, .int .u8 64] 5)) = .ok (.string u) (w.alloc (.cells #[.int .u8 b, .int .u8 64] 5)) := fun w => by rw [← hu]; exact conv2 w b 64
  have us : u.size = 2 := by rw [← hu]; rfl
  have HLt := Lib.hid (show bz (byZ b :: 64 :: sqM s) = u ++ q by
    rw [← hu, ← hq1, sqM_bz, show byZ b :: 64 :: sqM s = [byZ b, 64] ++ sqM s from rfl, ← bz_app]; rfl)
  have HLn := Lib.hid (show (byZ b :: 64 :: sqM s).length ≤ 10000 by
    have := sqM_len s
    simp only [List.length_cons]; omega)
  have k9 : ¬ (9223372036854775807 < u.size + q.size) := by omega
  have k8 : ¬ (9223372036854775807 < 2 + q.size) := by omega
  have ex : x.toList.isEmpty = true := by
    rw [← hx, bz_toList, mvT_nodrop hk.1 (Or.inl (by simpa using hk0))]; rfl
  have HPv : mvP p (byZ b :: 64 :: sqM s) = some ⟨s, s, 0, 3, false⟩ := by rw [hbv]; exact drop_yes hp.turn.1 hsm hq (by decide) (by decide) (by decide +kernel)
  have HP := Lib.hid (show pmO (mvP p (byZ b :: 64 :: sqM s)) = ⟨s, s, 0, 3, false⟩ by rw [HPv]; rfl)
  have HE := Lib.hid (show enO p (mvP p (byZ b :: 64 :: sqM s)) = 0 by rw [HPv]; rfl)
  clear hG hM hV hK hp hs hq1 hx hu HPv hsm hq qs us
  subst hbv
  have HLive := Lib.hid trivial
  go_enter Tryd.func8, Tryd.ntmps8
  go_wp2_with (first
      | (have HL9 := HLive; clear HL9; refine step_box rfl _ rfl p rfl ?_; intro b0 w1 N R; have HB := Lib.hid (HB.out.trans (N.below.mono HB.out.size)); have HR := Lib.hid R; clear N R)
      | (have HL9 := HLive; clear HL9; go_at_call 13; refine (mawake_any _ (HG.out.on HB.out) (HMx.out.on HB.out) (HV.out.on HB.out) (HK.out.on HB.out)).mono ?_; rintro e w3 ⟨rfl, hb⟩; have HR := Lib.hid (HR.out.later hb); have HB := Lib.hid (below_on HB.out hb); clear hb)
      | (have HL9 := HLive; clear HL9; refine step_get rfl 5 _ rfl b0 0 rfl Tryd.underlying5 rfl (.int .u8 (p 0)) ?_ ?_; exact HR.out.cell 0 (by decide))
      | (have HL9 := HLive; clear HL9; refine step_get rfl 5 _ rfl b0 78 rfl Tryd.underlying5 rfl (.int .u8 (p 78)) ?_ ?_; exact HR.out.cell 78 (by decide))
      | (have HL9 := HLive; clear HL9; go_at_call 14; refine (text_any s _).mono ?_; rintro e w3 ⟨rfl, hb⟩; rw [HQ1.out]; have HR := Lib.hid (HR.out.later hb); have HB := Lib.hid (below_on HB.out hb); clear hb)
      | (have HL9 := HLive; clear HL9; refine step_load rfl _ rfl b0 rfl p ?_ ?_; exact HR.out)
      | (have HL9 := HLive; clear HL9; go_at_call 9; refine (mvText_any p ⟨s, s, 0, k, false⟩ _ HFp.out HFm.out (HG.out.on HB.out)).mono ?_; rintro e w4 ⟨rfl, hb⟩; rw [HX.out]; have HR := Lib.hid (HR.out.later hb); have HB := Lib.hid (below_on HB.out hb); clear hb)
      | (have HL9 := HLive; clear HL9; go_at_call 11; rw [← HLt.out]; have HR := Lib.hid (HR.out.later (New.alloc _ (Obj.cells #[Value.int .u8 66, Value.int .u8 64] 5)).below); have HB := Lib.hid (HB.out.trans ((New.alloc _ (Obj.cells #[Value.int .u8 66, Value.int .u8 64] 5)).below.mono HB.out.size)); refine (mvParse_any p _ _ HLn.out HFp.out (HG.out.on HB.out) (HMx.out.on HB.out)).mono ?_; rintro e w5 ⟨rfl, hb⟩; rw [HP.out, HE.out, HLt.out]; have HR := Lib.hid (HR.out.later hb); have HB := Lib.hid (below_on HB.out hb); clear hb)
      | (have HL9 := HLive; clear HL9; refine blk_alloc rfl 33 rfl (mvA mv0) zeroMv ?_; intro b11 w6 N R; have HGb11 := Lib.hid (show w.heap.size ≤ b11 by rw [N.at_]; exact HB.out.size); have HDHRb11 := Lib.hid (show b0 ≠ b11 by rw [N.at_]; exact Nat.ne_of_lt HR.out.lt); have HR := Lib.hid (HR.out.later N.below); have HB := Lib.hid (HB.out.trans (N.below.mono HB.out.size)); have HQ := Lib.hid R; clear N R)
      | (clear HLive; refine blk_store rfl 33 _ _ rfl b11 rfl (mvA mv0) (mvA ⟨s, s, 0, 3, false⟩) rfl ?_ rfl (mv_one _) sizeMv ?_; exact HQ.out; intro w7 U R; have c3 : w7.cell? ⟨b11, 3, none⟩ = some (.int .u8 3) := Blk.cell R 3; have c0 : w7.cell? ⟨b11, 0, none⟩ = some (.int .i8 s) := Blk.cell R 0; have c1 : w7.cell? ⟨b11, 1, none⟩ = some (.int .i8 s) := Blk.cell R 1; have c2 : w7.cell? ⟨b11, 2, none⟩ = some (.int .u8 0) := Blk.cell R 2; have c4 : w7.cell? ⟨b11, 4, none⟩ = some (.bool false) := Blk.cell R 4; have HR := Lib.hid (HR.out.apart U HDHRb11.out); have HB := Lib.hid (HB.out.trans (U.below HGb11.out)); have HQ := Lib.hid R; clear U R))
  exact bodyPost_ret (results_tmp rfl _ _ _) rfl ⟨by simp, HB.out⟩
set_option maxRecDepth 100000 in
set_option maxHeartbeats 1000000 in
theorem dr_z3 (p : Nat → Int) (s k b : Int) (w : World) (hp : FitM p) (hs : -128 ≤ s ∧ s ≤ 127) (hk : 0 ≤ k ∧ k ≤ 255) (hb : 0 ≤ b ∧ b ≤ 255) (h1 : decide (s < 0) = false) (h2 : decide (63 < s) = false) (h3 : decide (9 ≤ p 0) = false) (h4 : decide (1 < p 78) = false) (hk0 : (k == 0) = true) (hbv : b = 82) (hG : TabGo w) (hM : TabMv w) (hV : TabVar w) (hK : TabKn w) : Calls Tryd.prog 8 #[.agg (posA p), .int .i8 s, .int .u8 k, .int .u8 b] w (BoL true w) := by
  have HG := Lib.hid hG
  have HMx := Lib.hid hM
  have HV := Lib.hid hV
  have HK := Lib.hid hK
  have HB := Lib.hid (Below.refl w.heap.size w)
  have HFp := Lib.hid hp
  have hsm : smB p = true := by
    unfold smB
    rw [Bool.and_eq_true, decide_eq_true_eq, decide_eq_true_eq]
    have a := of_decide_eq_false h3
    have c := of_decide_eq_false h4
    omega
  have hq : sqB s = true := by
    rw [sqB_true]
    have a := of_decide_eq_false h1
    have c := of_decide_eq_false h2
    omega
  have ws : IntKind.i64.wrap s = s := IntWalk.i64_in s (by omega)
  obtain ⟨q, hq1⟩ : ∃ q, textZ s = q := ⟨_, rfl⟩
  have HQ1 := Lib.hid hq1
  have qs : q.size ≤ 2 := by rw [← hq1]; exact sqM_size s
  obtain ⟨x, hx⟩ : ∃ x, bz (mvT p ⟨s, s, 0, k, false⟩) = x := ⟨_, rfl⟩
  have HX := Lib.hid hx
  have HFm := Lib.hid (show FitV ⟨s, s, 0, k, false⟩ from ⟨hs, hs, (by show (0 : Int) ≤ 0 ∧ (0 : Int) ≤ 255; decide), hk⟩)
  obtain ⟨u, hu⟩ : ∃ u, two b.toNat 64 = u := ⟨_, rfl⟩
  have hcv : ∀ w : World, (convert 47 9 (.slice (some ⟨w.heap.size, 0, none⟩) 2 2)).run Tryd.prog (w.alloc (.cells #[.int .u8 b, .int .u8 64] 5)) = .ok (.string u) (w.alloc (.cells #[.int .u8 b, .int .u8 64] 5)) := fun w => by rw [← hu]; exact conv2 w b 64
  have us : u.size = 2 := by rw [← hu]; rfl
  have HLt := Lib.hid (show bz (byZ b :: 64 :: sqM s) = u ++ q by
    rw [← hu, ← hq1, sqM_bz, show byZ b :: 64 :: sqM s = [byZ b, 64] ++ sqM s from rfl, ← bz_app]; rfl)
  have HLn := Lib.hid (show (byZ b :: 64 :: sqM s).length ≤ 10000 by
    have := sqM_len s
    simp only [List.length_cons]; omega)
  have k9 : ¬ (9223372036854775807 < u.size + q.size) := by omega
  have k8 : ¬ (9223372036854775807 < 2 + q.size) := by omega
  have ex : x.toList.isEmpty = true := by
    rw [← hx, bz_toList, mvT_nodrop hk.1 (Or.inl (by simpa using hk0))]; rfl
  have HPv : mvP p (byZ b :: 64 :: sqM s) = some ⟨s, s, 0, 4, false⟩ := by rw [hbv]; exact drop_yes hp.turn.1 hsm hq (by decide) (by decide) (by decide +kernel)
  have HP := Lib.hid (show pmO (mvP p (byZ b :: 64 :: sqM s)) = ⟨s, s, 0, 4, false⟩ by rw [HPv]; rfl)
  have HE := Lib.hid (show enO p (mvP p (byZ b :: 64 :: sqM s)) = 0 by rw [HPv]; rfl)
  clear hG hM hV hK hp hs hq1 hx hu HPv hsm hq qs us
  subst hbv
  have HLive := Lib.hid trivial
  go_enter Tryd.func8, Tryd.ntmps8
  go_wp2_with (first
      | (have HL9 := HLive; clear HL9; refine step_box rfl _ rfl p rfl ?_; intro b0 w1 N R; have HB := Lib.hid (HB.out.trans (N.below.mono HB.out.size)); have HR := Lib.hid R; clear N R)
      | (have HL9 := HLive; clear HL9; go_at_call 13; refine (mawake_any _ (HG.out.on HB.out) (HMx.out.on HB.out) (HV.out.on HB.out) (HK.out.on HB.out)).mono ?_; rintro e w3 ⟨rfl, hb⟩; have HR := Lib.hid (HR.out.later hb); have HB := Lib.hid (below_on HB.out hb); clear hb)
      | (have HL9 := HLive; clear HL9; refine step_get rfl 5 _ rfl b0 0 rfl Tryd.underlying5 rfl (.int .u8 (p 0)) ?_ ?_; exact HR.out.cell 0 (by decide))
      | (have HL9 := HLive; clear HL9; refine step_get rfl 5 _ rfl b0 78 rfl Tryd.underlying5 rfl (.int .u8 (p 78)) ?_ ?_; exact HR.out.cell 78 (by decide))
      | (have HL9 := HLive; clear HL9; go_at_call 14; refine (text_any s _).mono ?_; rintro e w3 ⟨rfl, hb⟩; rw [HQ1.out]; have HR := Lib.hid (HR.out.later hb); have HB := Lib.hid (below_on HB.out hb); clear hb)
      | (have HL9 := HLive; clear HL9; refine step_load rfl _ rfl b0 rfl p ?_ ?_; exact HR.out)
      | (have HL9 := HLive; clear HL9; go_at_call 9; refine (mvText_any p ⟨s, s, 0, k, false⟩ _ HFp.out HFm.out (HG.out.on HB.out)).mono ?_; rintro e w4 ⟨rfl, hb⟩; rw [HX.out]; have HR := Lib.hid (HR.out.later hb); have HB := Lib.hid (below_on HB.out hb); clear hb)
      | (have HL9 := HLive; clear HL9; go_at_call 11; rw [← HLt.out]; have HR := Lib.hid (HR.out.later (New.alloc _ (Obj.cells #[Value.int .u8 82, Value.int .u8 64] 5)).below); have HB := Lib.hid (HB.out.trans ((New.alloc _ (Obj.cells #[Value.int .u8 82, Value.int .u8 64] 5)).below.mono HB.out.size)); refine (mvParse_any p _ _ HLn.out HFp.out (HG.out.on HB.out) (HMx.out.on HB.out)).mono ?_; rintro e w5 ⟨rfl, hb⟩; rw [HP.out, HE.out, HLt.out]; have HR := Lib.hid (HR.out.later hb); have HB := Lib.hid (below_on HB.out hb); clear hb)
      | (have HL9 := HLive; clear HL9; refine blk_alloc rfl 33 rfl (mvA mv0) zeroMv ?_; intro b11 w6 N R; have HGb11 := Lib.hid (show w.heap.size ≤ b11 by rw [N.at_]; exact HB.out.size); have HDHRb11 := Lib.hid (show b0 ≠ b11 by rw [N.at_]; exact Nat.ne_of_lt HR.out.lt); have HR := Lib.hid (HR.out.later N.below); have HB := Lib.hid (HB.out.trans (N.below.mono HB.out.size)); have HQ := Lib.hid R; clear N R)
      | (clear HLive; refine blk_store rfl 33 _ _ rfl b11 rfl (mvA mv0) (mvA ⟨s, s, 0, 4, false⟩) rfl ?_ rfl (mv_one _) sizeMv ?_; exact HQ.out; intro w7 U R; have c3 : w7.cell? ⟨b11, 3, none⟩ = some (.int .u8 4) := Blk.cell R 3; have c0 : w7.cell? ⟨b11, 0, none⟩ = some (.int .i8 s) := Blk.cell R 0; have c1 : w7.cell? ⟨b11, 1, none⟩ = some (.int .i8 s) := Blk.cell R 1; have c2 : w7.cell? ⟨b11, 2, none⟩ = some (.int .u8 0) := Blk.cell R 2; have c4 : w7.cell? ⟨b11, 4, none⟩ = some (.bool false) := Blk.cell R 4; have HR := Lib.hid (HR.out.apart U HDHRb11.out); have HB := Lib.hid (HB.out.trans (U.below HGb11.out)); have HQ := Lib.hid R; clear U R))
  exact bodyPost_ret (results_tmp rfl _ _ _) rfl ⟨by simp, HB.out⟩
set_option maxRecDepth 100000 in
set_option maxHeartbeats 1000000 in
theorem dr_z4 (p : Nat → Int) (s k b : Int) (w : World) (hp : FitM p) (hs : -128 ≤ s ∧ s ≤ 127) (hk : 0 ≤ k ∧ k ≤ 255) (hb : 0 ≤ b ∧ b ≤ 255) (h1 : decide (s < 0) = false) (h2 : decide (63 < s) = false) (h3 : decide (9 ≤ p 0) = false) (h4 : decide (1 < p 78) = false) (hk0 : (k == 0) = true) (hbv : b = 81) (hG : TabGo w) (hM : TabMv w) (hV : TabVar w) (hK : TabKn w) : Calls Tryd.prog 8 #[.agg (posA p), .int .i8 s, .int .u8 k, .int .u8 b] w (BoL true w) := by
  have HG := Lib.hid hG
  have HMx := Lib.hid hM
  have HV := Lib.hid hV
  have HK := Lib.hid hK
  have HB := Lib.hid (Below.refl w.heap.size w)
  have HFp := Lib.hid hp
  have hsm : smB p = true := by
    unfold smB
    rw [Bool.and_eq_true, decide_eq_true_eq, decide_eq_true_eq]
    have a := of_decide_eq_false h3
    have c := of_decide_eq_false h4
    omega
  have hq : sqB s = true := by
    rw [sqB_true]
    have a := of_decide_eq_false h1
    have c := of_decide_eq_false h2
    omega
  have ws : IntKind.i64.wrap s = s := IntWalk.i64_in s (by omega)
  obtain ⟨q, hq1⟩ : ∃ q, textZ s = q := ⟨_, rfl⟩
  have HQ1 := Lib.hid hq1
  have qs : q.size ≤ 2 := by rw [← hq1]; exact sqM_size s
  obtain ⟨x, hx⟩ : ∃ x, bz (mvT p ⟨s, s, 0, k, false⟩) = x := ⟨_, rfl⟩
  have HX := Lib.hid hx
  have HFm := Lib.hid (show FitV ⟨s, s, 0, k, false⟩ from ⟨hs, hs, (by show (0 : Int) ≤ 0 ∧ (0 : Int) ≤ 255; decide), hk⟩)
  obtain ⟨u, hu⟩ : ∃ u, two b.toNat 64 = u := ⟨_, rfl⟩
  have hcv : ∀ w : World, (convert 47 9 (.slice (some ⟨w.heap.size, 0, none⟩) 2 2)).run Tryd.prog (w.alloc (.cells #[.int .u8 b, .int .u8 64] 5)) = .ok (.string u) (w.alloc (.cells #[.int .u8 b, .int .u8 64] 5)) := fun w => by rw [← hu]; exact conv2 w b 64
  have us : u.size = 2 := by rw [← hu]; rfl
  have HLt := Lib.hid (show bz (byZ b :: 64 :: sqM s) = u ++ q by
    rw [← hu, ← hq1, sqM_bz, show byZ b :: 64 :: sqM s = [byZ b, 64] ++ sqM s from rfl, ← bz_app]; rfl)
  have HLn := Lib.hid (show (byZ b :: 64 :: sqM s).length ≤ 10000 by
    have := sqM_len s
    simp only [List.length_cons]; omega)
  have k9 : ¬ (9223372036854775807 < u.size + q.size) := by omega
  have k8 : ¬ (9223372036854775807 < 2 + q.size) := by omega
  have ex : x.toList.isEmpty = true := by
    rw [← hx, bz_toList, mvT_nodrop hk.1 (Or.inl (by simpa using hk0))]; rfl
  have HPv : mvP p (byZ b :: 64 :: sqM s) = some ⟨s, s, 0, 5, false⟩ := by rw [hbv]; exact drop_yes hp.turn.1 hsm hq (by decide) (by decide) (by decide +kernel)
  have HP := Lib.hid (show pmO (mvP p (byZ b :: 64 :: sqM s)) = ⟨s, s, 0, 5, false⟩ by rw [HPv]; rfl)
  have HE := Lib.hid (show enO p (mvP p (byZ b :: 64 :: sqM s)) = 0 by rw [HPv]; rfl)
  clear hG hM hV hK hp hs hq1 hx hu HPv hsm hq qs us
  subst hbv
  have HLive := Lib.hid trivial
  go_enter Tryd.func8, Tryd.ntmps8
  go_wp2_with (first
      | (have HL9 := HLive; clear HL9; refine step_box rfl _ rfl p rfl ?_; intro b0 w1 N R; have HB := Lib.hid (HB.out.trans (N.below.mono HB.out.size)); have HR := Lib.hid R; clear N R)
      | (have HL9 := HLive; clear HL9; go_at_call 13; refine (mawake_any _ (HG.out.on HB.out) (HMx.out.on HB.out) (HV.out.on HB.out) (HK.out.on HB.out)).mono ?_; rintro e w3 ⟨rfl, hb⟩; have HR := Lib.hid (HR.out.later hb); have HB := Lib.hid (below_on HB.out hb); clear hb)
      | (have HL9 := HLive; clear HL9; refine step_get rfl 5 _ rfl b0 0 rfl Tryd.underlying5 rfl (.int .u8 (p 0)) ?_ ?_; exact HR.out.cell 0 (by decide))
      | (have HL9 := HLive; clear HL9; refine step_get rfl 5 _ rfl b0 78 rfl Tryd.underlying5 rfl (.int .u8 (p 78)) ?_ ?_; exact HR.out.cell 78 (by decide))
      | (have HL9 := HLive; clear HL9; go_at_call 14; refine (text_any s _).mono ?_; rintro e w3 ⟨rfl, hb⟩; rw [HQ1.out]; have HR := Lib.hid (HR.out.later hb); have HB := Lib.hid (below_on HB.out hb); clear hb)
      | (have HL9 := HLive; clear HL9; refine step_load rfl _ rfl b0 rfl p ?_ ?_; exact HR.out)
      | (have HL9 := HLive; clear HL9; go_at_call 9; refine (mvText_any p ⟨s, s, 0, k, false⟩ _ HFp.out HFm.out (HG.out.on HB.out)).mono ?_; rintro e w4 ⟨rfl, hb⟩; rw [HX.out]; have HR := Lib.hid (HR.out.later hb); have HB := Lib.hid (below_on HB.out hb); clear hb)
      | (have HL9 := HLive; clear HL9; go_at_call 11; rw [← HLt.out]; have HR := Lib.hid (HR.out.later (New.alloc _ (Obj.cells #[Value.int .u8 81, Value.int .u8 64] 5)).below); have HB := Lib.hid (HB.out.trans ((New.alloc _ (Obj.cells #[Value.int .u8 81, Value.int .u8 64] 5)).below.mono HB.out.size)); refine (mvParse_any p _ _ HLn.out HFp.out (HG.out.on HB.out) (HMx.out.on HB.out)).mono ?_; rintro e w5 ⟨rfl, hb⟩; rw [HP.out, HE.out, HLt.out]; have HR := Lib.hid (HR.out.later hb); have HB := Lib.hid (below_on HB.out hb); clear hb)
      | (have HL9 := HLive; clear HL9; refine blk_alloc rfl 33 rfl (mvA mv0) zeroMv ?_; intro b11 w6 N R; have HGb11 := Lib.hid (show w.heap.size ≤ b11 by rw [N.at_]; exact HB.out.size); have HDHRb11 := Lib.hid (show b0 ≠ b11 by rw [N.at_]; exact Nat.ne_of_lt HR.out.lt); have HR := Lib.hid (HR.out.later N.below); have HB := Lib.hid (HB.out.trans (N.below.mono HB.out.size)); have HQ := Lib.hid R; clear N R)
      | (clear HLive; refine blk_store rfl 33 _ _ rfl b11 rfl (mvA mv0) (mvA ⟨s, s, 0, 5, false⟩) rfl ?_ rfl (mv_one _) sizeMv ?_; exact HQ.out; intro w7 U R; have c3 : w7.cell? ⟨b11, 3, none⟩ = some (.int .u8 5) := Blk.cell R 3; have c0 : w7.cell? ⟨b11, 0, none⟩ = some (.int .i8 s) := Blk.cell R 0; have c1 : w7.cell? ⟨b11, 1, none⟩ = some (.int .i8 s) := Blk.cell R 1; have c2 : w7.cell? ⟨b11, 2, none⟩ = some (.int .u8 0) := Blk.cell R 2; have c4 : w7.cell? ⟨b11, 4, none⟩ = some (.bool false) := Blk.cell R 4; have HR := Lib.hid (HR.out.apart U HDHRb11.out); have HB := Lib.hid (HB.out.trans (U.below HGb11.out)); have HQ := Lib.hid R; clear U R))
  exact bodyPost_ret (results_tmp rfl _ _ _) rfl ⟨by simp, HB.out⟩
set_option maxRecDepth 100000 in
set_option maxHeartbeats 1000000 in
theorem dr_z5 (p : Nat → Int) (s k b : Int) (w : World) (hp : FitM p) (hs : -128 ≤ s ∧ s ≤ 127) (hk : 0 ≤ k ∧ k ≤ 255) (hb : 0 ≤ b ∧ b ≤ 255) (h1 : decide (s < 0) = false) (h2 : decide (63 < s) = false) (h3 : decide (9 ≤ p 0) = false) (h4 : decide (1 < p 78) = false) (hk0 : (k == 0) = true) (hb80 : (b == 80) = false) (hb78 : (b == 78) = false) (hb66 : (b == 66) = false) (hb82 : (b == 82) = false) (hb81 : (b == 81) = false) (hG : TabGo w) (hM : TabMv w) (hV : TabVar w) (hK : TabKn w) : Calls Tryd.prog 8 #[.agg (posA p), .int .i8 s, .int .u8 k, .int .u8 b] w (BoL true w) := by
  have HG := Lib.hid hG
  have HMx := Lib.hid hM
  have HV := Lib.hid hV
  have HK := Lib.hid hK
  have HB := Lib.hid (Below.refl w.heap.size w)
  have HFp := Lib.hid hp
  have hsm : smB p = true := by
    unfold smB
    rw [Bool.and_eq_true, decide_eq_true_eq, decide_eq_true_eq]
    have a := of_decide_eq_false h3
    have c := of_decide_eq_false h4
    omega
  have hq : sqB s = true := by
    rw [sqB_true]
    have a := of_decide_eq_false h1
    have c := of_decide_eq_false h2
    omega
  have ws : IntKind.i64.wrap s = s := IntWalk.i64_in s (by omega)
  obtain ⟨q, hq1⟩ : ∃ q, textZ s = q := ⟨_, rfl⟩
  have HQ1 := Lib.hid hq1
  have qs : q.size ≤ 2 := by rw [← hq1]; exact sqM_size s
  obtain ⟨x, hx⟩ : ∃ x, bz (mvT p ⟨s, s, 0, k, false⟩) = x := ⟨_, rfl⟩
  have HX := Lib.hid hx
  have HFm := Lib.hid (show FitV ⟨s, s, 0, k, false⟩ from ⟨hs, hs, (by show (0 : Int) ≤ 0 ∧ (0 : Int) ≤ 255; decide), hk⟩)
  obtain ⟨u, hu⟩ : ∃ u, two b.toNat 64 = u := ⟨_, rfl⟩
  have hcv : ∀ w : World, (convert 47 9 (.slice (some ⟨w.heap.size, 0, none⟩) 2 2)).run Tryd.prog (w.alloc (.cells #[.int .u8 b, .int .u8 64] 5)) = .ok (.string u) (w.alloc (.cells #[.int .u8 b, .int .u8 64] 5)) := fun w => by rw [← hu]; exact conv2 w b 64
  have us : u.size = 2 := by rw [← hu]; rfl
  have HLt := Lib.hid (show bz (byZ b :: 64 :: sqM s) = u ++ q by
    rw [← hu, ← hq1, sqM_bz, show byZ b :: 64 :: sqM s = [byZ b, 64] ++ sqM s from rfl, ← bz_app]; rfl)
  have HLn := Lib.hid (show (byZ b :: 64 :: sqM s).length ≤ 10000 by
    have := sqM_len s
    simp only [List.length_cons]; omega)
  have k9 : ¬ (9223372036854775807 < u.size + q.size) := by omega
  have k8 : ¬ (9223372036854775807 < 2 + q.size) := by omega
  have ex : x.toList.isEmpty = true := by
    rw [← hx, bz_toList, mvT_nodrop hk.1 (Or.inl (by simpa using hk0))]; rfl
  have HPv : mvP p (byZ b :: 64 :: sqM s) = none := drop_no (by
    have e := byZ_nat8 hb.1 hb.2
    rw [beq_eq_false_iff_ne] at hb80 hb78 hb66 hb82 hb81
    omega)
  have HP := Lib.hid (show pmO (mvP p (byZ b :: 64 :: sqM s)) = ⟨0, 0, 0, 0, false⟩ by rw [HPv]; rfl)
  have HE := Lib.hid (show enO p (mvP p (byZ b :: 64 :: sqM s)) = 5 by rw [HPv]; show (bif smB p then (5 : Int) else 2) = 5; rw [hsm]; rfl)
  clear hG hM hV hK hp hs hq1 hx hu HPv hsm hq qs us
  have HLive := Lib.hid trivial
  go_enter Tryd.func8, Tryd.ntmps8
  go_wp2_with (first
      | (have HL9 := HLive; clear HL9; refine step_box rfl _ rfl p rfl ?_; intro b0 w1 N R; have HB := Lib.hid (HB.out.trans (N.below.mono HB.out.size)); have HR := Lib.hid R; clear N R)
      | (have HL9 := HLive; clear HL9; go_at_call 13; refine (mawake_any _ (HG.out.on HB.out) (HMx.out.on HB.out) (HV.out.on HB.out) (HK.out.on HB.out)).mono ?_; rintro e w3 ⟨rfl, hb⟩; have HR := Lib.hid (HR.out.later hb); have HB := Lib.hid (below_on HB.out hb); clear hb)
      | (have HL9 := HLive; clear HL9; refine step_get rfl 5 _ rfl b0 0 rfl Tryd.underlying5 rfl (.int .u8 (p 0)) ?_ ?_; exact HR.out.cell 0 (by decide))
      | (have HL9 := HLive; clear HL9; refine step_get rfl 5 _ rfl b0 78 rfl Tryd.underlying5 rfl (.int .u8 (p 78)) ?_ ?_; exact HR.out.cell 78 (by decide))
      | (have HL9 := HLive; clear HL9; go_at_call 14; refine (text_any s _).mono ?_; rintro e w3 ⟨rfl, hb⟩; rw [HQ1.out]; have HR := Lib.hid (HR.out.later hb); have HB := Lib.hid (below_on HB.out hb); clear hb)
      | (have HL9 := HLive; clear HL9; refine step_load rfl _ rfl b0 rfl p ?_ ?_; exact HR.out)
      | (have HL9 := HLive; clear HL9; go_at_call 9; refine (mvText_any p ⟨s, s, 0, k, false⟩ _ HFp.out HFm.out (HG.out.on HB.out)).mono ?_; rintro e w4 ⟨rfl, hb⟩; rw [HX.out]; have HR := Lib.hid (HR.out.later hb); have HB := Lib.hid (below_on HB.out hb); clear hb)
      | (have HL9 := HLive; clear HL9; go_at_call 11; rw [← HLt.out]; have HR := Lib.hid (HR.out.later (New.alloc _ (Obj.cells #[Value.int .u8 b, Value.int .u8 64] 5)).below); have HB := Lib.hid (HB.out.trans ((New.alloc _ (Obj.cells #[Value.int .u8 b, Value.int .u8 64] 5)).below.mono HB.out.size)); refine (mvParse_any p _ _ HLn.out HFp.out (HG.out.on HB.out) (HMx.out.on HB.out)).mono ?_; rintro e w5 ⟨rfl, hb⟩; rw [HP.out, HE.out, HLt.out]; have HR := Lib.hid (HR.out.later hb); have HB := Lib.hid (below_on HB.out hb); clear hb)
      | (have HL9 := HLive; clear HL9; refine blk_alloc rfl 33 rfl (mvA mv0) zeroMv ?_; intro b11 w6 N R; have HGb11 := Lib.hid (show w.heap.size ≤ b11 by rw [N.at_]; exact HB.out.size); have HDHRb11 := Lib.hid (show b0 ≠ b11 by rw [N.at_]; exact Nat.ne_of_lt HR.out.lt); have HR := Lib.hid (HR.out.later N.below); have HB := Lib.hid (HB.out.trans (N.below.mono HB.out.size)); have HQ := Lib.hid R; clear N R)
      | (have HL9 := HLive; clear HL9; refine blk_store rfl 33 _ _ rfl b11 rfl (mvA mv0) (mvA ⟨0, 0, 0, 0, false⟩) rfl ?_ rfl (mv_one _) sizeMv ?_; exact HQ.out; intro w7 U R; have HR := Lib.hid (HR.out.apart U HDHRb11.out); have HB := Lib.hid (HB.out.trans (U.below HGb11.out)); have HQ := Lib.hid R; clear U R)
      | (clear HLive; refine step_get rfl 5 _ rfl b11 3 rfl Tryd.underlying5 rfl (.int .u8 0) ?_ ?_; exact Blk.cell HQ.out 3))
  exact bodyPost_ret (results_tmp rfl _ _ _) rfl ⟨by simp, HB.out⟩
set_option maxRecDepth 100000 in
set_option maxHeartbeats 1000000 in
theorem dr_g0 (p : Nat → Int) (s k b : Int) (w : World) (hp : FitM p) (hs : -128 ≤ s ∧ s ≤ 127) (hk : 0 ≤ k ∧ k ≤ 255) (hb : 0 ≤ b ∧ b ≤ 255) (h1 : decide (s < 0) = false) (h2 : decide (63 < s) = false) (h3 : decide (9 ≤ p 0) = false) (h4 : decide (1 < p 78) = false) (hk0 : (k == 0) = false) (hk5 : decide (5 < k) = true) (hbv : b = 80) (hG : TabGo w) (hM : TabMv w) (hV : TabVar w) (hK : TabKn w) : Calls Tryd.prog 8 #[.agg (posA p), .int .i8 s, .int .u8 k, .int .u8 b] w (BoL true w) := by
  have HG := Lib.hid hG
  have HMx := Lib.hid hM
  have HV := Lib.hid hV
  have HK := Lib.hid hK
  have HB := Lib.hid (Below.refl w.heap.size w)
  have HFp := Lib.hid hp
  have hsm : smB p = true := by
    unfold smB
    rw [Bool.and_eq_true, decide_eq_true_eq, decide_eq_true_eq]
    have a := of_decide_eq_false h3
    have c := of_decide_eq_false h4
    omega
  have hq : sqB s = true := by
    rw [sqB_true]
    have a := of_decide_eq_false h1
    have c := of_decide_eq_false h2
    omega
  have ws : IntKind.i64.wrap s = s := IntWalk.i64_in s (by omega)
  obtain ⟨q, hq1⟩ : ∃ q, textZ s = q := ⟨_, rfl⟩
  have HQ1 := Lib.hid hq1
  have qs : q.size ≤ 2 := by rw [← hq1]; exact sqM_size s
  obtain ⟨x, hx⟩ : ∃ x, bz (mvT p ⟨s, s, 0, k, false⟩) = x := ⟨_, rfl⟩
  have HX := Lib.hid hx
  have HFm := Lib.hid (show FitV ⟨s, s, 0, k, false⟩ from ⟨hs, hs, (by show (0 : Int) ≤ 0 ∧ (0 : Int) ≤ 255; decide), hk⟩)
  obtain ⟨u, hu⟩ : ∃ u, two b.toNat 64 = u := ⟨_, rfl⟩
  have hcv : ∀ w : World, (convert 47 9 (.slice (some ⟨w.heap.size, 0, none⟩) 2 2)).run Tryd.prog (w.alloc (.cells #[.int .u8 b, .int .u8 64] 5)) = .ok (.string u) (w.alloc (.cells #[.int .u8 b, .int .u8 64] 5)) := fun w => by rw [← hu]; exact conv2 w b 64
  have us : u.size = 2 := by rw [← hu]; rfl
  have HLt := Lib.hid (show bz (byZ b :: 64 :: sqM s) = u ++ q by
    rw [← hu, ← hq1, sqM_bz, show byZ b :: 64 :: sqM s = [byZ b, 64] ++ sqM s from rfl, ← bz_app]; rfl)
  have HLn := Lib.hid (show (byZ b :: 64 :: sqM s).length ≤ 10000 by
    have := sqM_len s
    simp only [List.length_cons]; omega)
  have k9 : ¬ (9223372036854775807 < u.size + q.size) := by omega
  have k8 : ¬ (9223372036854775807 < 2 + q.size) := by omega
  have ex : x.toList.isEmpty = true := by
    rw [← hx, bz_toList, mvT_nodrop hk.1 (Or.inr (of_decide_eq_true hk5))]; rfl
  have HPv : mvP p (byZ b :: 64 :: sqM s) = some ⟨s, s, 0, 1, false⟩ := by rw [hbv]; exact drop_yes hp.turn.1 hsm hq (by decide) (by decide) (by decide +kernel)
  have HP := Lib.hid (show pmO (mvP p (byZ b :: 64 :: sqM s)) = ⟨s, s, 0, 1, false⟩ by rw [HPv]; rfl)
  have HE := Lib.hid (show enO p (mvP p (byZ b :: 64 :: sqM s)) = 0 by rw [HPv]; rfl)
  clear hG hM hV hK hp hs hq1 hx hu HPv hsm hq qs us
  subst hbv
  have HLive := Lib.hid trivial
  go_enter Tryd.func8, Tryd.ntmps8
  go_wp2_with (first
      | (have HL9 := HLive; clear HL9; refine step_box rfl _ rfl p rfl ?_; intro b0 w1 N R; have HB := Lib.hid (HB.out.trans (N.below.mono HB.out.size)); have HR := Lib.hid R; clear N R)
      | (have HL9 := HLive; clear HL9; go_at_call 13; refine (mawake_any _ (HG.out.on HB.out) (HMx.out.on HB.out) (HV.out.on HB.out) (HK.out.on HB.out)).mono ?_; rintro e w3 ⟨rfl, hb⟩; have HR := Lib.hid (HR.out.later hb); have HB := Lib.hid (below_on HB.out hb); clear hb)
      | (have HL9 := HLive; clear HL9; refine step_get rfl 5 _ rfl b0 0 rfl Tryd.underlying5 rfl (.int .u8 (p 0)) ?_ ?_; exact HR.out.cell 0 (by decide))
      | (have HL9 := HLive; clear HL9; refine step_get rfl 5 _ rfl b0 78 rfl Tryd.underlying5 rfl (.int .u8 (p 78)) ?_ ?_; exact HR.out.cell 78 (by decide))
      | (have HL9 := HLive; clear HL9; go_at_call 14; refine (text_any s _).mono ?_; rintro e w3 ⟨rfl, hb⟩; rw [HQ1.out]; have HR := Lib.hid (HR.out.later hb); have HB := Lib.hid (below_on HB.out hb); clear hb)
      | (have HL9 := HLive; clear HL9; refine step_load rfl _ rfl b0 rfl p ?_ ?_; exact HR.out)
      | (have HL9 := HLive; clear HL9; go_at_call 9; refine (mvText_any p ⟨s, s, 0, k, false⟩ _ HFp.out HFm.out (HG.out.on HB.out)).mono ?_; rintro e w4 ⟨rfl, hb⟩; rw [HX.out]; have HR := Lib.hid (HR.out.later hb); have HB := Lib.hid (below_on HB.out hb); clear hb)
      | (have HL9 := HLive; clear HL9; go_at_call 11; rw [← HLt.out]; have HR := Lib.hid (HR.out.later (New.alloc _ (Obj.cells #[Value.int .u8 80, Value.int .u8 64] 5)).below); have HB := Lib.hid (HB.out.trans ((New.alloc _ (Obj.cells #[Value.int .u8 80, Value.int .u8 64] 5)).below.mono HB.out.size)); refine (mvParse_any p _ _ HLn.out HFp.out (HG.out.on HB.out) (HMx.out.on HB.out)).mono ?_; rintro e w5 ⟨rfl, hb⟩; rw [HP.out, HE.out, HLt.out]; have HR := Lib.hid (HR.out.later hb); have HB := Lib.hid (below_on HB.out hb); clear hb)
      | (have HL9 := HLive; clear HL9; refine blk_alloc rfl 33 rfl (mvA mv0) zeroMv ?_; intro b11 w6 N R; have HGb11 := Lib.hid (show w.heap.size ≤ b11 by rw [N.at_]; exact HB.out.size); have HDHRb11 := Lib.hid (show b0 ≠ b11 by rw [N.at_]; exact Nat.ne_of_lt HR.out.lt); have HR := Lib.hid (HR.out.later N.below); have HB := Lib.hid (HB.out.trans (N.below.mono HB.out.size)); have HQ := Lib.hid R; clear N R)
      | (clear HLive; refine blk_store rfl 33 _ _ rfl b11 rfl (mvA mv0) (mvA ⟨s, s, 0, 1, false⟩) rfl ?_ rfl (mv_one _) sizeMv ?_; exact HQ.out; intro w7 U R; have c3 : w7.cell? ⟨b11, 3, none⟩ = some (.int .u8 1) := Blk.cell R 3; have c0 : w7.cell? ⟨b11, 0, none⟩ = some (.int .i8 s) := Blk.cell R 0; have c1 : w7.cell? ⟨b11, 1, none⟩ = some (.int .i8 s) := Blk.cell R 1; have c2 : w7.cell? ⟨b11, 2, none⟩ = some (.int .u8 0) := Blk.cell R 2; have c4 : w7.cell? ⟨b11, 4, none⟩ = some (.bool false) := Blk.cell R 4; have HR := Lib.hid (HR.out.apart U HDHRb11.out); have HB := Lib.hid (HB.out.trans (U.below HGb11.out)); have HQ := Lib.hid R; clear U R))
  exact bodyPost_ret (results_tmp rfl _ _ _) rfl ⟨by simp, HB.out⟩
set_option maxRecDepth 100000 in
set_option maxHeartbeats 1000000 in
theorem dr_g1 (p : Nat → Int) (s k b : Int) (w : World) (hp : FitM p) (hs : -128 ≤ s ∧ s ≤ 127) (hk : 0 ≤ k ∧ k ≤ 255) (hb : 0 ≤ b ∧ b ≤ 255) (h1 : decide (s < 0) = false) (h2 : decide (63 < s) = false) (h3 : decide (9 ≤ p 0) = false) (h4 : decide (1 < p 78) = false) (hk0 : (k == 0) = false) (hk5 : decide (5 < k) = true) (hbv : b = 78) (hG : TabGo w) (hM : TabMv w) (hV : TabVar w) (hK : TabKn w) : Calls Tryd.prog 8 #[.agg (posA p), .int .i8 s, .int .u8 k, .int .u8 b] w (BoL true w) := by
  have HG := Lib.hid hG
  have HMx := Lib.hid hM
  have HV := Lib.hid hV
  have HK := Lib.hid hK
  have HB := Lib.hid (Below.refl w.heap.size w)
  have HFp := Lib.hid hp
  have hsm : smB p = true := by
    unfold smB
    rw [Bool.and_eq_true, decide_eq_true_eq, decide_eq_true_eq]
    have a := of_decide_eq_false h3
    have c := of_decide_eq_false h4
    omega
  have hq : sqB s = true := by
    rw [sqB_true]
    have a := of_decide_eq_false h1
    have c := of_decide_eq_false h2
    omega
  have ws : IntKind.i64.wrap s = s := IntWalk.i64_in s (by omega)
  obtain ⟨q, hq1⟩ : ∃ q, textZ s = q := ⟨_, rfl⟩
  have HQ1 := Lib.hid hq1
  have qs : q.size ≤ 2 := by rw [← hq1]; exact sqM_size s
  obtain ⟨x, hx⟩ : ∃ x, bz (mvT p ⟨s, s, 0, k, false⟩) = x := ⟨_, rfl⟩
  have HX := Lib.hid hx
  have HFm := Lib.hid (show FitV ⟨s, s, 0, k, false⟩ from ⟨hs, hs, (by show (0 : Int) ≤ 0 ∧ (0 : Int) ≤ 255; decide), hk⟩)
  obtain ⟨u, hu⟩ : ∃ u, two b.toNat 64 = u := ⟨_, rfl⟩
  have hcv : ∀ w : World, (convert 47 9 (.slice (some ⟨w.heap.size, 0, none⟩) 2 2)).run Tryd.prog (w.alloc (.cells #[.int .u8 b, .int .u8 64] 5)) = .ok (.string u) (w.alloc (.cells #[.int .u8 b, .int .u8 64] 5)) := fun w => by rw [← hu]; exact conv2 w b 64
  have us : u.size = 2 := by rw [← hu]; rfl
  have HLt := Lib.hid (show bz (byZ b :: 64 :: sqM s) = u ++ q by
    rw [← hu, ← hq1, sqM_bz, show byZ b :: 64 :: sqM s = [byZ b, 64] ++ sqM s from rfl, ← bz_app]; rfl)
  have HLn := Lib.hid (show (byZ b :: 64 :: sqM s).length ≤ 10000 by
    have := sqM_len s
    simp only [List.length_cons]; omega)
  have k9 : ¬ (9223372036854775807 < u.size + q.size) := by omega
  have k8 : ¬ (9223372036854775807 < 2 + q.size) := by omega
  have ex : x.toList.isEmpty = true := by
    rw [← hx, bz_toList, mvT_nodrop hk.1 (Or.inr (of_decide_eq_true hk5))]; rfl
  have HPv : mvP p (byZ b :: 64 :: sqM s) = some ⟨s, s, 0, 2, false⟩ := by rw [hbv]; exact drop_yes hp.turn.1 hsm hq (by decide) (by decide) (by decide +kernel)
  have HP := Lib.hid (show pmO (mvP p (byZ b :: 64 :: sqM s)) = ⟨s, s, 0, 2, false⟩ by rw [HPv]; rfl)
  have HE := Lib.hid (show enO p (mvP p (byZ b :: 64 :: sqM s)) = 0 by rw [HPv]; rfl)
  clear hG hM hV hK hp hs hq1 hx hu HPv hsm hq qs us
  subst hbv
  have HLive := Lib.hid trivial
  go_enter Tryd.func8, Tryd.ntmps8
  go_wp2_with (first
      | (have HL9 := HLive; clear HL9; refine step_box rfl _ rfl p rfl ?_; intro b0 w1 N R; have HB := Lib.hid (HB.out.trans (N.below.mono HB.out.size)); have HR := Lib.hid R; clear N R)
      | (have HL9 := HLive; clear HL9; go_at_call 13; refine (mawake_any _ (HG.out.on HB.out) (HMx.out.on HB.out) (HV.out.on HB.out) (HK.out.on HB.out)).mono ?_; rintro e w3 ⟨rfl, hb⟩; have HR := Lib.hid (HR.out.later hb); have HB := Lib.hid (below_on HB.out hb); clear hb)
      | (have HL9 := HLive; clear HL9; refine step_get rfl 5 _ rfl b0 0 rfl Tryd.underlying5 rfl (.int .u8 (p 0)) ?_ ?_; exact HR.out.cell 0 (by decide))
      | (have HL9 := HLive; clear HL9; refine step_get rfl 5 _ rfl b0 78 rfl Tryd.underlying5 rfl (.int .u8 (p 78)) ?_ ?_; exact HR.out.cell 78 (by decide))
      | (have HL9 := HLive; clear HL9; go_at_call 14; refine (text_any s _).mono ?_; rintro e w3 ⟨rfl, hb⟩; rw [HQ1.out]; have HR := Lib.hid (HR.out.later hb); have HB := Lib.hid (below_on HB.out hb); clear hb)
      | (have HL9 := HLive; clear HL9; refine step_load rfl _ rfl b0 rfl p ?_ ?_; exact HR.out)
      | (have HL9 := HLive; clear HL9; go_at_call 9; refine (mvText_any p ⟨s, s, 0, k, false⟩ _ HFp.out HFm.out (HG.out.on HB.out)).mono ?_; rintro e w4 ⟨rfl, hb⟩; rw [HX.out]; have HR := Lib.hid (HR.out.later hb); have HB := Lib.hid (below_on HB.out hb); clear hb)
      | (have HL9 := HLive; clear HL9; go_at_call 11; rw [← HLt.out]; have HR := Lib.hid (HR.out.later (New.alloc _ (Obj.cells #[Value.int .u8 78, Value.int .u8 64] 5)).below); have HB := Lib.hid (HB.out.trans ((New.alloc _ (Obj.cells #[Value.int .u8 78, Value.int .u8 64] 5)).below.mono HB.out.size)); refine (mvParse_any p _ _ HLn.out HFp.out (HG.out.on HB.out) (HMx.out.on HB.out)).mono ?_; rintro e w5 ⟨rfl, hb⟩; rw [HP.out, HE.out, HLt.out]; have HR := Lib.hid (HR.out.later hb); have HB := Lib.hid (below_on HB.out hb); clear hb)
      | (have HL9 := HLive; clear HL9; refine blk_alloc rfl 33 rfl (mvA mv0) zeroMv ?_; intro b11 w6 N R; have HGb11 := Lib.hid (show w.heap.size ≤ b11 by rw [N.at_]; exact HB.out.size); have HDHRb11 := Lib.hid (show b0 ≠ b11 by rw [N.at_]; exact Nat.ne_of_lt HR.out.lt); have HR := Lib.hid (HR.out.later N.below); have HB := Lib.hid (HB.out.trans (N.below.mono HB.out.size)); have HQ := Lib.hid R; clear N R)
      | (clear HLive; refine blk_store rfl 33 _ _ rfl b11 rfl (mvA mv0) (mvA ⟨s, s, 0, 2, false⟩) rfl ?_ rfl (mv_one _) sizeMv ?_; exact HQ.out; intro w7 U R; have c3 : w7.cell? ⟨b11, 3, none⟩ = some (.int .u8 2) := Blk.cell R 3; have c0 : w7.cell? ⟨b11, 0, none⟩ = some (.int .i8 s) := Blk.cell R 0; have c1 : w7.cell? ⟨b11, 1, none⟩ = some (.int .i8 s) := Blk.cell R 1; have c2 : w7.cell? ⟨b11, 2, none⟩ = some (.int .u8 0) := Blk.cell R 2; have c4 : w7.cell? ⟨b11, 4, none⟩ = some (.bool false) := Blk.cell R 4; have HR := Lib.hid (HR.out.apart U HDHRb11.out); have HB := Lib.hid (HB.out.trans (U.below HGb11.out)); have HQ := Lib.hid R; clear U R))
  exact bodyPost_ret (results_tmp rfl _ _ _) rfl ⟨by simp, HB.out⟩
set_option maxRecDepth 100000 in
set_option maxHeartbeats 1000000 in
theorem dr_g2 (p : Nat → Int) (s k b : Int) (w : World) (hp : FitM p) (hs : -128 ≤ s ∧ s ≤ 127) (hk : 0 ≤ k ∧ k ≤ 255) (hb : 0 ≤ b ∧ b ≤ 255) (h1 : decide (s < 0) = false) (h2 : decide (63 < s) = false) (h3 : decide (9 ≤ p 0) = false) (h4 : decide (1 < p 78) = false) (hk0 : (k == 0) = false) (hk5 : decide (5 < k) = true) (hbv : b = 66) (hG : TabGo w) (hM : TabMv w) (hV : TabVar w) (hK : TabKn w) : Calls Tryd.prog 8 #[.agg (posA p), .int .i8 s, .int .u8 k, .int .u8 b] w (BoL true w) := by
  have HG := Lib.hid hG
  have HMx := Lib.hid hM
  have HV := Lib.hid hV
  have HK := Lib.hid hK
  have HB := Lib.hid (Below.refl w.heap.size w)
  have HFp := Lib.hid hp
  have hsm : smB p = true := by
    unfold smB
    rw [Bool.and_eq_true, decide_eq_true_eq, decide_eq_true_eq]
    have a := of_decide_eq_false h3
    have c := of_decide_eq_false h4
    omega
  have hq : sqB s = true := by
    rw [sqB_true]
    have a := of_decide_eq_false h1
    have c := of_decide_eq_false h2
    omega
  have ws : IntKind.i64.wrap s = s := IntWalk.i64_in s (by omega)
  obtain ⟨q, hq1⟩ : ∃ q, textZ s = q := ⟨_, rfl⟩
  have HQ1 := Lib.hid hq1
  have qs : q.size ≤ 2 := by rw [← hq1]; exact sqM_size s
  obtain ⟨x, hx⟩ : ∃ x, bz (mvT p ⟨s, s, 0, k, false⟩) = x := ⟨_, rfl⟩
  have HX := Lib.hid hx
  have HFm := Lib.hid (show FitV ⟨s, s, 0, k, false⟩ from ⟨hs, hs, (by show (0 : Int) ≤ 0 ∧ (0 : Int) ≤ 255; decide), hk⟩)
  obtain ⟨u, hu⟩ : ∃ u, two b.toNat 64 = u := ⟨_, rfl⟩
  have hcv : ∀ w : World, (convert 47 9 (.slice (some ⟨w.heap.size, 0, none⟩) 2 2)).run Tryd.prog (w.alloc (.cells #[.int .u8 b, .int .u8 64] 5)) = .ok (.string u) (w.alloc (.cells #[.int .u8 b, .int .u8 64] 5)) := fun w => by rw [← hu]; exact conv2 w b 64
  have us : u.size = 2 := by rw [← hu]; rfl
  have HLt := Lib.hid (show bz (byZ b :: 64 :: sqM s) = u ++ q by
    rw [← hu, ← hq1, sqM_bz, show byZ b :: 64 :: sqM s = [byZ b, 64] ++ sqM s from rfl, ← bz_app]; rfl)
  have HLn := Lib.hid (show (byZ b :: 64 :: sqM s).length ≤ 10000 by
    have := sqM_len s
    simp only [List.length_cons]; omega)
  have k9 : ¬ (9223372036854775807 < u.size + q.size) := by omega
  have k8 : ¬ (9223372036854775807 < 2 + q.size) := by omega
  have ex : x.toList.isEmpty = true := by
    rw [← hx, bz_toList, mvT_nodrop hk.1 (Or.inr (of_decide_eq_true hk5))]; rfl
  have HPv : mvP p (byZ b :: 64 :: sqM s) = some ⟨s, s, 0, 3, false⟩ := by rw [hbv]; exact drop_yes hp.turn.1 hsm hq (by decide) (by decide) (by decide +kernel)
  have HP := Lib.hid (show pmO (mvP p (byZ b :: 64 :: sqM s)) = ⟨s, s, 0, 3, false⟩ by rw [HPv]; rfl)
  have HE := Lib.hid (show enO p (mvP p (byZ b :: 64 :: sqM s)) = 0 by rw [HPv]; rfl)
  clear hG hM hV hK hp hs hq1 hx hu HPv hsm hq qs us
  subst hbv
  have HLive := Lib.hid trivial
  go_enter Tryd.func8, Tryd.ntmps8
  go_wp2_with (first
      | (have HL9 := HLive; clear HL9; refine step_box rfl _ rfl p rfl ?_; intro b0 w1 N R; have HB := Lib.hid (HB.out.trans (N.below.mono HB.out.size)); have HR := Lib.hid R; clear N R)
      | (have HL9 := HLive; clear HL9; go_at_call 13; refine (mawake_any _ (HG.out.on HB.out) (HMx.out.on HB.out) (HV.out.on HB.out) (HK.out.on HB.out)).mono ?_; rintro e w3 ⟨rfl, hb⟩; have HR := Lib.hid (HR.out.later hb); have HB := Lib.hid (below_on HB.out hb); clear hb)
      | (have HL9 := HLive; clear HL9; refine step_get rfl 5 _ rfl b0 0 rfl Tryd.underlying5 rfl (.int .u8 (p 0)) ?_ ?_; exact HR.out.cell 0 (by decide))
      | (have HL9 := HLive; clear HL9; refine step_get rfl 5 _ rfl b0 78 rfl Tryd.underlying5 rfl (.int .u8 (p 78)) ?_ ?_; exact HR.out.cell 78 (by decide))
      | (have HL9 := HLive; clear HL9; go_at_call 14; refine (text_any s _).mono ?_; rintro e w3 ⟨rfl, hb⟩; rw [HQ1.out]; have HR := Lib.hid (HR.out.later hb); have HB := Lib.hid (below_on HB.out hb); clear hb)
      | (have HL9 := HLive; clear HL9; refine step_load rfl _ rfl b0 rfl p ?_ ?_; exact HR.out)
      | (have HL9 := HLive; clear HL9; go_at_call 9; refine (mvText_any p ⟨s, s, 0, k, false⟩ _ HFp.out HFm.out (HG.out.on HB.out)).mono ?_; rintro e w4 ⟨rfl, hb⟩; rw [HX.out]; have HR := Lib.hid (HR.out.later hb); have HB := Lib.hid (below_on HB.out hb); clear hb)
      | (have HL9 := HLive; clear HL9; go_at_call 11; rw [← HLt.out]; have HR := Lib.hid (HR.out.later (New.alloc _ (Obj.cells #[Value.int .u8 66, Value.int .u8 64] 5)).below); have HB := Lib.hid (HB.out.trans ((New.alloc _ (Obj.cells #[Value.int .u8 66, Value.int .u8 64] 5)).below.mono HB.out.size)); refine (mvParse_any p _ _ HLn.out HFp.out (HG.out.on HB.out) (HMx.out.on HB.out)).mono ?_; rintro e w5 ⟨rfl, hb⟩; rw [HP.out, HE.out, HLt.out]; have HR := Lib.hid (HR.out.later hb); have HB := Lib.hid (below_on HB.out hb); clear hb)
      | (have HL9 := HLive; clear HL9; refine blk_alloc rfl 33 rfl (mvA mv0) zeroMv ?_; intro b11 w6 N R; have HGb11 := Lib.hid (show w.heap.size ≤ b11 by rw [N.at_]; exact HB.out.size); have HDHRb11 := Lib.hid (show b0 ≠ b11 by rw [N.at_]; exact Nat.ne_of_lt HR.out.lt); have HR := Lib.hid (HR.out.later N.below); have HB := Lib.hid (HB.out.trans (N.below.mono HB.out.size)); have HQ := Lib.hid R; clear N R)
      | (clear HLive; refine blk_store rfl 33 _ _ rfl b11 rfl (mvA mv0) (mvA ⟨s, s, 0, 3, false⟩) rfl ?_ rfl (mv_one _) sizeMv ?_; exact HQ.out; intro w7 U R; have c3 : w7.cell? ⟨b11, 3, none⟩ = some (.int .u8 3) := Blk.cell R 3; have c0 : w7.cell? ⟨b11, 0, none⟩ = some (.int .i8 s) := Blk.cell R 0; have c1 : w7.cell? ⟨b11, 1, none⟩ = some (.int .i8 s) := Blk.cell R 1; have c2 : w7.cell? ⟨b11, 2, none⟩ = some (.int .u8 0) := Blk.cell R 2; have c4 : w7.cell? ⟨b11, 4, none⟩ = some (.bool false) := Blk.cell R 4; have HR := Lib.hid (HR.out.apart U HDHRb11.out); have HB := Lib.hid (HB.out.trans (U.below HGb11.out)); have HQ := Lib.hid R; clear U R))
  exact bodyPost_ret (results_tmp rfl _ _ _) rfl ⟨by simp, HB.out⟩
set_option maxRecDepth 100000 in
set_option maxHeartbeats 1000000 in
theorem dr_g3 (p : Nat → Int) (s k b : Int) (w : World) (hp : FitM p) (hs : -128 ≤ s ∧ s ≤ 127) (hk : 0 ≤ k ∧ k ≤ 255) (hb : 0 ≤ b ∧ b ≤ 255) (h1 : decide (s < 0) = false) (h2 : decide (63 < s) = false) (h3 : decide (9 ≤ p 0) = false) (h4 : decide (1 < p 78) = false) (hk0 : (k == 0) = false) (hk5 : decide (5 < k) = true) (hbv : b = 82) (hG : TabGo w) (hM : TabMv w) (hV : TabVar w) (hK : TabKn w) : Calls Tryd.prog 8 #[.agg (posA p), .int .i8 s, .int .u8 k, .int .u8 b] w (BoL true w) := by
  have HG := Lib.hid hG
  have HMx := Lib.hid hM
  have HV := Lib.hid hV
  have HK := Lib.hid hK
  have HB := Lib.hid (Below.refl w.heap.size w)
  have HFp := Lib.hid hp
  have hsm : smB p = true := by
    unfold smB
    rw [Bool.and_eq_true, decide_eq_true_eq, decide_eq_true_eq]
    have a := of_decide_eq_false h3
    have c := of_decide_eq_false h4
    omega
  have hq : sqB s = true := by
    rw [sqB_true]
    have a := of_decide_eq_false h1
    have c := of_decide_eq_false h2
    omega
  have ws : IntKind.i64.wrap s = s := IntWalk.i64_in s (by omega)
  obtain ⟨q, hq1⟩ : ∃ q, textZ s = q := ⟨_, rfl⟩
  have HQ1 := Lib.hid hq1
  have qs : q.size ≤ 2 := by rw [← hq1]; exact sqM_size s
  obtain ⟨x, hx⟩ : ∃ x, bz (mvT p ⟨s, s, 0, k, false⟩) = x := ⟨_, rfl⟩
  have HX := Lib.hid hx
  have HFm := Lib.hid (show FitV ⟨s, s, 0, k, false⟩ from ⟨hs, hs, (by show (0 : Int) ≤ 0 ∧ (0 : Int) ≤ 255; decide), hk⟩)
  obtain ⟨u, hu⟩ : ∃ u, two b.toNat 64 = u := ⟨_, rfl⟩
  have hcv : ∀ w : World, (convert 47 9 (.slice (some ⟨w.heap.size, 0, none⟩) 2 2)).run Tryd.prog (w.alloc (.cells #[.int .u8 b, .int .u8 64] 5)) = .ok (.string u) (w.alloc (.cells #[.int .u8 b, .int .u8 64] 5)) := fun w => by rw [← hu]; exact conv2 w b 64
  have us : u.size = 2 := by rw [← hu]; rfl
  have HLt := Lib.hid (show bz (byZ b :: 64 :: sqM s) = u ++ q by
    rw [← hu, ← hq1, sqM_bz, show byZ b :: 64 :: sqM s = [byZ b, 64] ++ sqM s from rfl, ← bz_app]; rfl)
  have HLn := Lib.hid (show (byZ b :: 64 :: sqM s).length ≤ 10000 by
    have := sqM_len s
    simp only [List.length_cons]; omega)
  have k9 : ¬ (9223372036854775807 < u.size + q.size) := by omega
  have k8 : ¬ (9223372036854775807 < 2 + q.size) := by omega
  have ex : x.toList.isEmpty = true := by
    rw [← hx, bz_toList, mvT_nodrop hk.1 (Or.inr (of_decide_eq_true hk5))]; rfl
  have HPv : mvP p (byZ b :: 64 :: sqM s) = some ⟨s, s, 0, 4, false⟩ := by rw [hbv]; exact drop_yes hp.turn.1 hsm hq (by decide) (by decide) (by decide +kernel)
  have HP := Lib.hid (show pmO (mvP p (byZ b :: 64 :: sqM s)) = ⟨s, s, 0, 4, false⟩ by rw [HPv]; rfl)
  have HE := Lib.hid (show enO p (mvP p (byZ b :: 64 :: sqM s)) = 0 by rw [HPv]; rfl)
  clear hG hM hV hK hp hs hq1 hx hu HPv hsm hq qs us
  subst hbv
  have HLive := Lib.hid trivial
  go_enter Tryd.func8, Tryd.ntmps8
  go_wp2_with (first
      | (have HL9 := HLive; clear HL9; refine step_box rfl _ rfl p rfl ?_; intro b0 w1 N R; have HB := Lib.hid (HB.out.trans (N.below.mono HB.out.size)); have HR := Lib.hid R; clear N R)
      | (have HL9 := HLive; clear HL9; go_at_call 13; refine (mawake_any _ (HG.out.on HB.out) (HMx.out.on HB.out) (HV.out.on HB.out) (HK.out.on HB.out)).mono ?_; rintro e w3 ⟨rfl, hb⟩; have HR := Lib.hid (HR.out.later hb); have HB := Lib.hid (below_on HB.out hb); clear hb)
      | (have HL9 := HLive; clear HL9; refine step_get rfl 5 _ rfl b0 0 rfl Tryd.underlying5 rfl (.int .u8 (p 0)) ?_ ?_; exact HR.out.cell 0 (by decide))
      | (have HL9 := HLive; clear HL9; refine step_get rfl 5 _ rfl b0 78 rfl Tryd.underlying5 rfl (.int .u8 (p 78)) ?_ ?_; exact HR.out.cell 78 (by decide))
      | (have HL9 := HLive; clear HL9; go_at_call 14; refine (text_any s _).mono ?_; rintro e w3 ⟨rfl, hb⟩; rw [HQ1.out]; have HR := Lib.hid (HR.out.later hb); have HB := Lib.hid (below_on HB.out hb); clear hb)
      | (have HL9 := HLive; clear HL9; refine step_load rfl _ rfl b0 rfl p ?_ ?_; exact HR.out)
      | (have HL9 := HLive; clear HL9; go_at_call 9; refine (mvText_any p ⟨s, s, 0, k, false⟩ _ HFp.out HFm.out (HG.out.on HB.out)).mono ?_; rintro e w4 ⟨rfl, hb⟩; rw [HX.out]; have HR := Lib.hid (HR.out.later hb); have HB := Lib.hid (below_on HB.out hb); clear hb)
      | (have HL9 := HLive; clear HL9; go_at_call 11; rw [← HLt.out]; have HR := Lib.hid (HR.out.later (New.alloc _ (Obj.cells #[Value.int .u8 82, Value.int .u8 64] 5)).below); have HB := Lib.hid (HB.out.trans ((New.alloc _ (Obj.cells #[Value.int .u8 82, Value.int .u8 64] 5)).below.mono HB.out.size)); refine (mvParse_any p _ _ HLn.out HFp.out (HG.out.on HB.out) (HMx.out.on HB.out)).mono ?_; rintro e w5 ⟨rfl, hb⟩; rw [HP.out, HE.out, HLt.out]; have HR := Lib.hid (HR.out.later hb); have HB := Lib.hid (below_on HB.out hb); clear hb)
      | (have HL9 := HLive; clear HL9; refine blk_alloc rfl 33 rfl (mvA mv0) zeroMv ?_; intro b11 w6 N R; have HGb11 := Lib.hid (show w.heap.size ≤ b11 by rw [N.at_]; exact HB.out.size); have HDHRb11 := Lib.hid (show b0 ≠ b11 by rw [N.at_]; exact Nat.ne_of_lt HR.out.lt); have HR := Lib.hid (HR.out.later N.below); have HB := Lib.hid (HB.out.trans (N.below.mono HB.out.size)); have HQ := Lib.hid R; clear N R)
      | (clear HLive; refine blk_store rfl 33 _ _ rfl b11 rfl (mvA mv0) (mvA ⟨s, s, 0, 4, false⟩) rfl ?_ rfl (mv_one _) sizeMv ?_; exact HQ.out; intro w7 U R; have c3 : w7.cell? ⟨b11, 3, none⟩ = some (.int .u8 4) := Blk.cell R 3; have c0 : w7.cell? ⟨b11, 0, none⟩ = some (.int .i8 s) := Blk.cell R 0; have c1 : w7.cell? ⟨b11, 1, none⟩ = some (.int .i8 s) := Blk.cell R 1; have c2 : w7.cell? ⟨b11, 2, none⟩ = some (.int .u8 0) := Blk.cell R 2; have c4 : w7.cell? ⟨b11, 4, none⟩ = some (.bool false) := Blk.cell R 4; have HR := Lib.hid (HR.out.apart U HDHRb11.out); have HB := Lib.hid (HB.out.trans (U.below HGb11.out)); have HQ := Lib.hid R; clear U R))
  exact bodyPost_ret (results_tmp rfl _ _ _) rfl ⟨by simp, HB.out⟩
set_option maxRecDepth 100000 in
set_option maxHeartbeats 1000000 in
theorem dr_g4 (p : Nat → Int) (s k b : Int) (w : World) (hp : FitM p) (hs : -128 ≤ s ∧ s ≤ 127) (hk : 0 ≤ k ∧ k ≤ 255) (hb : 0 ≤ b ∧ b ≤ 255) (h1 : decide (s < 0) = false) (h2 : decide (63 < s) = false) (h3 : decide (9 ≤ p 0) = false) (h4 : decide (1 < p 78) = false) (hk0 : (k == 0) = false) (hk5 : decide (5 < k) = true) (hbv : b = 81) (hG : TabGo w) (hM : TabMv w) (hV : TabVar w) (hK : TabKn w) : Calls Tryd.prog 8 #[.agg (posA p), .int .i8 s, .int .u8 k, .int .u8 b] w (BoL true w) := by
  have HG := Lib.hid hG
  have HMx := Lib.hid hM
  have HV := Lib.hid hV
  have HK := Lib.hid hK
  have HB := Lib.hid (Below.refl w.heap.size w)
  have HFp := Lib.hid hp
  have hsm : smB p = true := by
    unfold smB
    rw [Bool.and_eq_true, decide_eq_true_eq, decide_eq_true_eq]
    have a := of_decide_eq_false h3
    have c := of_decide_eq_false h4
    omega
  have hq : sqB s = true := by
    rw [sqB_true]
    have a := of_decide_eq_false h1
    have c := of_decide_eq_false h2
    omega
  have ws : IntKind.i64.wrap s = s := IntWalk.i64_in s (by omega)
  obtain ⟨q, hq1⟩ : ∃ q, textZ s = q := ⟨_, rfl⟩
  have HQ1 := Lib.hid hq1
  have qs : q.size ≤ 2 := by rw [← hq1]; exact sqM_size s
  obtain ⟨x, hx⟩ : ∃ x, bz (mvT p ⟨s, s, 0, k, false⟩) = x := ⟨_, rfl⟩
  have HX := Lib.hid hx
  have HFm := Lib.hid (show FitV ⟨s, s, 0, k, false⟩ from ⟨hs, hs, (by show (0 : Int) ≤ 0 ∧ (0 : Int) ≤ 255; decide), hk⟩)
  obtain ⟨u, hu⟩ : ∃ u, two b.toNat 64 = u := ⟨_, rfl⟩
  have hcv : ∀ w : World, (convert 47 9 (.slice (some ⟨w.heap.size, 0, none⟩) 2 2)).run Tryd.prog (w.alloc (.cells #[.int .u8 b, .int .u8 64] 5)) = .ok (.string u) (w.alloc (.cells #[.int .u8 b, .int .u8 64] 5)) := fun w => by rw [← hu]; exact conv2 w b 64
  have us : u.size = 2 := by rw [← hu]; rfl
  have HLt := Lib.hid (show bz (byZ b :: 64 :: sqM s) = u ++ q by
    rw [← hu, ← hq1, sqM_bz, show byZ b :: 64 :: sqM s = [byZ b, 64] ++ sqM s from rfl, ← bz_app]; rfl)
  have HLn := Lib.hid (show (byZ b :: 64 :: sqM s).length ≤ 10000 by
    have := sqM_len s
    simp only [List.length_cons]; omega)
  have k9 : ¬ (9223372036854775807 < u.size + q.size) := by omega
  have k8 : ¬ (9223372036854775807 < 2 + q.size) := by omega
  have ex : x.toList.isEmpty = true := by
    rw [← hx, bz_toList, mvT_nodrop hk.1 (Or.inr (of_decide_eq_true hk5))]; rfl
  have HPv : mvP p (byZ b :: 64 :: sqM s) = some ⟨s, s, 0, 5, false⟩ := by rw [hbv]; exact drop_yes hp.turn.1 hsm hq (by decide) (by decide) (by decide +kernel)
  have HP := Lib.hid (show pmO (mvP p (byZ b :: 64 :: sqM s)) = ⟨s, s, 0, 5, false⟩ by rw [HPv]; rfl)
  have HE := Lib.hid (show enO p (mvP p (byZ b :: 64 :: sqM s)) = 0 by rw [HPv]; rfl)
  clear hG hM hV hK hp hs hq1 hx hu HPv hsm hq qs us
  subst hbv
  have HLive := Lib.hid trivial
  go_enter Tryd.func8, Tryd.ntmps8
  go_wp2_with (first
      | (have HL9 := HLive; clear HL9; refine step_box rfl _ rfl p rfl ?_; intro b0 w1 N R; have HB := Lib.hid (HB.out.trans (N.below.mono HB.out.size)); have HR := Lib.hid R; clear N R)
      | (have HL9 := HLive; clear HL9; go_at_call 13; refine (mawake_any _ (HG.out.on HB.out) (HMx.out.on HB.out) (HV.out.on HB.out) (HK.out.on HB.out)).mono ?_; rintro e w3 ⟨rfl, hb⟩; have HR := Lib.hid (HR.out.later hb); have HB := Lib.hid (below_on HB.out hb); clear hb)
      | (have HL9 := HLive; clear HL9; refine step_get rfl 5 _ rfl b0 0 rfl Tryd.underlying5 rfl (.int .u8 (p 0)) ?_ ?_; exact HR.out.cell 0 (by decide))
      | (have HL9 := HLive; clear HL9; refine step_get rfl 5 _ rfl b0 78 rfl Tryd.underlying5 rfl (.int .u8 (p 78)) ?_ ?_; exact HR.out.cell 78 (by decide))
      | (have HL9 := HLive; clear HL9; go_at_call 14; refine (text_any s _).mono ?_; rintro e w3 ⟨rfl, hb⟩; rw [HQ1.out]; have HR := Lib.hid (HR.out.later hb); have HB := Lib.hid (below_on HB.out hb); clear hb)
      | (have HL9 := HLive; clear HL9; refine step_load rfl _ rfl b0 rfl p ?_ ?_; exact HR.out)
      | (have HL9 := HLive; clear HL9; go_at_call 9; refine (mvText_any p ⟨s, s, 0, k, false⟩ _ HFp.out HFm.out (HG.out.on HB.out)).mono ?_; rintro e w4 ⟨rfl, hb⟩; rw [HX.out]; have HR := Lib.hid (HR.out.later hb); have HB := Lib.hid (below_on HB.out hb); clear hb)
      | (have HL9 := HLive; clear HL9; go_at_call 11; rw [← HLt.out]; have HR := Lib.hid (HR.out.later (New.alloc _ (Obj.cells #[Value.int .u8 81, Value.int .u8 64] 5)).below); have HB := Lib.hid (HB.out.trans ((New.alloc _ (Obj.cells #[Value.int .u8 81, Value.int .u8 64] 5)).below.mono HB.out.size)); refine (mvParse_any p _ _ HLn.out HFp.out (HG.out.on HB.out) (HMx.out.on HB.out)).mono ?_; rintro e w5 ⟨rfl, hb⟩; rw [HP.out, HE.out, HLt.out]; have HR := Lib.hid (HR.out.later hb); have HB := Lib.hid (below_on HB.out hb); clear hb)
      | (have HL9 := HLive; clear HL9; refine blk_alloc rfl 33 rfl (mvA mv0) zeroMv ?_; intro b11 w6 N R; have HGb11 := Lib.hid (show w.heap.size ≤ b11 by rw [N.at_]; exact HB.out.size); have HDHRb11 := Lib.hid (show b0 ≠ b11 by rw [N.at_]; exact Nat.ne_of_lt HR.out.lt); have HR := Lib.hid (HR.out.later N.below); have HB := Lib.hid (HB.out.trans (N.below.mono HB.out.size)); have HQ := Lib.hid R; clear N R)
      | (clear HLive; refine blk_store rfl 33 _ _ rfl b11 rfl (mvA mv0) (mvA ⟨s, s, 0, 5, false⟩) rfl ?_ rfl (mv_one _) sizeMv ?_; exact HQ.out; intro w7 U R; have c3 : w7.cell? ⟨b11, 3, none⟩ = some (.int .u8 5) := Blk.cell R 3; have c0 : w7.cell? ⟨b11, 0, none⟩ = some (.int .i8 s) := Blk.cell R 0; have c1 : w7.cell? ⟨b11, 1, none⟩ = some (.int .i8 s) := Blk.cell R 1; have c2 : w7.cell? ⟨b11, 2, none⟩ = some (.int .u8 0) := Blk.cell R 2; have c4 : w7.cell? ⟨b11, 4, none⟩ = some (.bool false) := Blk.cell R 4; have HR := Lib.hid (HR.out.apart U HDHRb11.out); have HB := Lib.hid (HB.out.trans (U.below HGb11.out)); have HQ := Lib.hid R; clear U R))
  exact bodyPost_ret (results_tmp rfl _ _ _) rfl ⟨by simp, HB.out⟩
set_option maxRecDepth 100000 in
set_option maxHeartbeats 1000000 in
theorem dr_g5 (p : Nat → Int) (s k b : Int) (w : World) (hp : FitM p) (hs : -128 ≤ s ∧ s ≤ 127) (hk : 0 ≤ k ∧ k ≤ 255) (hb : 0 ≤ b ∧ b ≤ 255) (h1 : decide (s < 0) = false) (h2 : decide (63 < s) = false) (h3 : decide (9 ≤ p 0) = false) (h4 : decide (1 < p 78) = false) (hk0 : (k == 0) = false) (hk5 : decide (5 < k) = true) (hb80 : (b == 80) = false) (hb78 : (b == 78) = false) (hb66 : (b == 66) = false) (hb82 : (b == 82) = false) (hb81 : (b == 81) = false) (hG : TabGo w) (hM : TabMv w) (hV : TabVar w) (hK : TabKn w) : Calls Tryd.prog 8 #[.agg (posA p), .int .i8 s, .int .u8 k, .int .u8 b] w (BoL true w) := by
  have HG := Lib.hid hG
  have HMx := Lib.hid hM
  have HV := Lib.hid hV
  have HK := Lib.hid hK
  have HB := Lib.hid (Below.refl w.heap.size w)
  have HFp := Lib.hid hp
  have hsm : smB p = true := by
    unfold smB
    rw [Bool.and_eq_true, decide_eq_true_eq, decide_eq_true_eq]
    have a := of_decide_eq_false h3
    have c := of_decide_eq_false h4
    omega
  have hq : sqB s = true := by
    rw [sqB_true]
    have a := of_decide_eq_false h1
    have c := of_decide_eq_false h2
    omega
  have ws : IntKind.i64.wrap s = s := IntWalk.i64_in s (by omega)
  obtain ⟨q, hq1⟩ : ∃ q, textZ s = q := ⟨_, rfl⟩
  have HQ1 := Lib.hid hq1
  have qs : q.size ≤ 2 := by rw [← hq1]; exact sqM_size s
  obtain ⟨x, hx⟩ : ∃ x, bz (mvT p ⟨s, s, 0, k, false⟩) = x := ⟨_, rfl⟩
  have HX := Lib.hid hx
  have HFm := Lib.hid (show FitV ⟨s, s, 0, k, false⟩ from ⟨hs, hs, (by show (0 : Int) ≤ 0 ∧ (0 : Int) ≤ 255; decide), hk⟩)
  obtain ⟨u, hu⟩ : ∃ u, two b.toNat 64 = u := ⟨_, rfl⟩
  have hcv : ∀ w : World, (convert 47 9 (.slice (some ⟨w.heap.size, 0, none⟩) 2 2)).run Tryd.prog (w.alloc (.cells #[.int .u8 b, .int .u8 64] 5)) = .ok (.string u) (w.alloc (.cells #[.int .u8 b, .int .u8 64] 5)) := fun w => by rw [← hu]; exact conv2 w b 64
  have us : u.size = 2 := by rw [← hu]; rfl
  have HLt := Lib.hid (show bz (byZ b :: 64 :: sqM s) = u ++ q by
    rw [← hu, ← hq1, sqM_bz, show byZ b :: 64 :: sqM s = [byZ b, 64] ++ sqM s from rfl, ← bz_app]; rfl)
  have HLn := Lib.hid (show (byZ b :: 64 :: sqM s).length ≤ 10000 by
    have := sqM_len s
    simp only [List.length_cons]; omega)
  have k9 : ¬ (9223372036854775807 < u.size + q.size) := by omega
  have k8 : ¬ (9223372036854775807 < 2 + q.size) := by omega
  have ex : x.toList.isEmpty = true := by
    rw [← hx, bz_toList, mvT_nodrop hk.1 (Or.inr (of_decide_eq_true hk5))]; rfl
  have HPv : mvP p (byZ b :: 64 :: sqM s) = none := drop_no (by
    have e := byZ_nat8 hb.1 hb.2
    rw [beq_eq_false_iff_ne] at hb80 hb78 hb66 hb82 hb81
    omega)
  have HP := Lib.hid (show pmO (mvP p (byZ b :: 64 :: sqM s)) = ⟨0, 0, 0, 0, false⟩ by rw [HPv]; rfl)
  have HE := Lib.hid (show enO p (mvP p (byZ b :: 64 :: sqM s)) = 5 by rw [HPv]; show (bif smB p then (5 : Int) else 2) = 5; rw [hsm]; rfl)
  clear hG hM hV hK hp hs hq1 hx hu HPv hsm hq qs us
  have HLive := Lib.hid trivial
  go_enter Tryd.func8, Tryd.ntmps8
  go_wp2_with (first
      | (have HL9 := HLive; clear HL9; refine step_box rfl _ rfl p rfl ?_; intro b0 w1 N R; have HB := Lib.hid (HB.out.trans (N.below.mono HB.out.size)); have HR := Lib.hid R; clear N R)
      | (have HL9 := HLive; clear HL9; go_at_call 13; refine (mawake_any _ (HG.out.on HB.out) (HMx.out.on HB.out) (HV.out.on HB.out) (HK.out.on HB.out)).mono ?_; rintro e w3 ⟨rfl, hb⟩; have HR := Lib.hid (HR.out.later hb); have HB := Lib.hid (below_on HB.out hb); clear hb)
      | (have HL9 := HLive; clear HL9; refine step_get rfl 5 _ rfl b0 0 rfl Tryd.underlying5 rfl (.int .u8 (p 0)) ?_ ?_; exact HR.out.cell 0 (by decide))
      | (have HL9 := HLive; clear HL9; refine step_get rfl 5 _ rfl b0 78 rfl Tryd.underlying5 rfl (.int .u8 (p 78)) ?_ ?_; exact HR.out.cell 78 (by decide))
      | (have HL9 := HLive; clear HL9; go_at_call 14; refine (text_any s _).mono ?_; rintro e w3 ⟨rfl, hb⟩; rw [HQ1.out]; have HR := Lib.hid (HR.out.later hb); have HB := Lib.hid (below_on HB.out hb); clear hb)
      | (have HL9 := HLive; clear HL9; refine step_load rfl _ rfl b0 rfl p ?_ ?_; exact HR.out)
      | (have HL9 := HLive; clear HL9; go_at_call 9; refine (mvText_any p ⟨s, s, 0, k, false⟩ _ HFp.out HFm.out (HG.out.on HB.out)).mono ?_; rintro e w4 ⟨rfl, hb⟩; rw [HX.out]; have HR := Lib.hid (HR.out.later hb); have HB := Lib.hid (below_on HB.out hb); clear hb)
      | (have HL9 := HLive; clear HL9; go_at_call 11; rw [← HLt.out]; have HR := Lib.hid (HR.out.later (New.alloc _ (Obj.cells #[Value.int .u8 b, Value.int .u8 64] 5)).below); have HB := Lib.hid (HB.out.trans ((New.alloc _ (Obj.cells #[Value.int .u8 b, Value.int .u8 64] 5)).below.mono HB.out.size)); refine (mvParse_any p _ _ HLn.out HFp.out (HG.out.on HB.out) (HMx.out.on HB.out)).mono ?_; rintro e w5 ⟨rfl, hb⟩; rw [HP.out, HE.out, HLt.out]; have HR := Lib.hid (HR.out.later hb); have HB := Lib.hid (below_on HB.out hb); clear hb)
      | (have HL9 := HLive; clear HL9; refine blk_alloc rfl 33 rfl (mvA mv0) zeroMv ?_; intro b11 w6 N R; have HGb11 := Lib.hid (show w.heap.size ≤ b11 by rw [N.at_]; exact HB.out.size); have HDHRb11 := Lib.hid (show b0 ≠ b11 by rw [N.at_]; exact Nat.ne_of_lt HR.out.lt); have HR := Lib.hid (HR.out.later N.below); have HB := Lib.hid (HB.out.trans (N.below.mono HB.out.size)); have HQ := Lib.hid R; clear N R)
      | (have HL9 := HLive; clear HL9; refine blk_store rfl 33 _ _ rfl b11 rfl (mvA mv0) (mvA ⟨0, 0, 0, 0, false⟩) rfl ?_ rfl (mv_one _) sizeMv ?_; exact HQ.out; intro w7 U R; have HR := Lib.hid (HR.out.apart U HDHRb11.out); have HB := Lib.hid (HB.out.trans (U.below HGb11.out)); have HQ := Lib.hid R; clear U R)
      | (clear HLive; refine step_get rfl 5 _ rfl b11 3 rfl Tryd.underlying5 rfl (.int .u8 0) ?_ ?_; exact Blk.cell HQ.out 3))
  exact bodyPost_ret (results_tmp rfl _ _ _) rfl ⟨by simp, HB.out⟩
set_option maxRecDepth 100000 in
set_option maxHeartbeats 1000000 in
theorem dr_s0 (p : Nat → Int) (s k b : Int) (w : World) (hp : FitM p) (hs : -128 ≤ s ∧ s ≤ 127) (hk : 0 ≤ k ∧ k ≤ 255) (hb : 0 ≤ b ∧ b ≤ 255) (h1 : decide (s < 0) = false) (h2 : decide (63 < s) = false) (h3 : decide (9 ≤ p 0) = false) (h4 : decide (1 < p 78) = false) (hk0 : (k == 0) = false) (hk5 : decide (5 < k) = false) (hbv : b = 80) (hG : TabGo w) (hM : TabMv w) (hV : TabVar w) (hK : TabKn w) : Calls Tryd.prog 8 #[.agg (posA p), .int .i8 s, .int .u8 k, .int .u8 b] w (BoL true w) := by
  have HG := Lib.hid hG
  have HMx := Lib.hid hM
  have HV := Lib.hid hV
  have HK := Lib.hid hK
  have HB := Lib.hid (Below.refl w.heap.size w)
  have HFp := Lib.hid hp
  have hsm : smB p = true := by
    unfold smB
    rw [Bool.and_eq_true, decide_eq_true_eq, decide_eq_true_eq]
    have a := of_decide_eq_false h3
    have c := of_decide_eq_false h4
    omega
  have hq : sqB s = true := by
    rw [sqB_true]
    have a := of_decide_eq_false h1
    have c := of_decide_eq_false h2
    omega
  have ws : IntKind.i64.wrap s = s := IntWalk.i64_in s (by omega)
  obtain ⟨q, hq1⟩ : ∃ q, textZ s = q := ⟨_, rfl⟩
  have HQ1 := Lib.hid hq1
  have qs : q.size ≤ 2 := by rw [← hq1]; exact sqM_size s
  obtain ⟨x, hx⟩ : ∃ x, bz (mvT p ⟨s, s, 0, k, false⟩) = x := ⟨_, rfl⟩
  have HX := Lib.hid hx
  have HFm := Lib.hid (show FitV ⟨s, s, 0, k, false⟩ from ⟨hs, hs, (by show (0 : Int) ≤ 0 ∧ (0 : Int) ≤ 255; decide), hk⟩)
  obtain ⟨u, hu⟩ : ∃ u, two b.toNat 64 = u := ⟨_, rfl⟩
  have hcv : ∀ w : World, (convert 47 9 (.slice (some ⟨w.heap.size, 0, none⟩) 2 2)).run Tryd.prog (w.alloc (.cells #[.int .u8 b, .int .u8 64] 5)) = .ok (.string u) (w.alloc (.cells #[.int .u8 b, .int .u8 64] 5)) := fun w => by rw [← hu]; exact conv2 w b 64
  have us : u.size = 2 := by rw [← hu]; rfl
  have HLt := Lib.hid (show bz (byZ b :: 64 :: sqM s) = u ++ q by
    rw [← hu, ← hq1, sqM_bz, show byZ b :: 64 :: sqM s = [byZ b, 64] ++ sqM s from rfl, ← bz_app]; rfl)
  have HLn := Lib.hid (show (byZ b :: 64 :: sqM s).length ≤ 10000 by
    have := sqM_len s
    simp only [List.length_cons]; omega)
  have k9 : ¬ (9223372036854775807 < u.size + q.size) := by omega
  have k8 : ¬ (9223372036854775807 < 2 + q.size) := by omega
  have c1 : 1 ≤ k := by have : k ≠ 0 := by simpa using hk0
                        omega
  have c5 : k ≤ 5 := by have := of_decide_eq_false hk5; omega
  obtain ⟨n, rfl⟩ := Int.eq_ofNat_of_zero_le hk.1
  obtain ⟨z, hz⟩ : ∃ z, bz (leF (mkZ 0 (n : Int))) = z := ⟨_, rfl⟩
  have rc : ∀ w, (Instr.slice 9 (.string ⟨#[46, 80, 78, 66, 82, 81]⟩) (some (.int .u8 (n : Int))) (some (.int .u8 ((n : Int) + 1))) none).run Tryd.prog w = .ok (.string z) w := fun w => by rw [← hz]; exact cut_kind n w (by omega) (by omega)
  have zs : z.size ≤ 1 := by rw [← hz, bz_size]; exact leF_len _
  have k1 : ¬ (9223372036854775807 < z.size + 1) := by omega
  have k2 : ¬ (9223372036854775807 < z.size + 1 + q.size) := by omega
  have exz : (x.toList == (z ++ ⟨#[64]⟩ ++ q).toList) = true := by
    rw [← hx, ← hz, ← hq1, sqM_bz, show (⟨#[64]⟩ : ByteArray) = bz [64] from rfl, bz_app, bz_app, mvT_drop hsm hq c1 c5, bz_toList, bz_toList]
    simp
  have HPv : mvP p (byZ b :: 64 :: sqM s) = some ⟨s, s, 0, 1, false⟩ := by rw [hbv]; exact drop_yes hp.turn.1 hsm hq (by decide) (by decide) (by decide +kernel)
  have HP := Lib.hid (show pmO (mvP p (byZ b :: 64 :: sqM s)) = ⟨s, s, 0, 1, false⟩ by rw [HPv]; rfl)
  have HE := Lib.hid (show enO p (mvP p (byZ b :: 64 :: sqM s)) = 0 by rw [HPv]; rfl)
  clear hG hM hV hK hp hs hq1 hx hu HPv hsm hq qs us hz zs c1
  subst hbv
  have HLive := Lib.hid trivial
  go_enter Tryd.func8, Tryd.ntmps8
  go_wp2_with (first
      | (have HL9 := HLive; clear HL9; refine step_box rfl _ rfl p rfl ?_; intro b0 w1 N R; have HB := Lib.hid (HB.out.trans (N.below.mono HB.out.size)); have HR := Lib.hid R; clear N R)
      | (have HL9 := HLive; clear HL9; go_at_call 13; refine (mawake_any _ (HG.out.on HB.out) (HMx.out.on HB.out) (HV.out.on HB.out) (HK.out.on HB.out)).mono ?_; rintro e w3 ⟨rfl, hb⟩; have HR := Lib.hid (HR.out.later hb); have HB := Lib.hid (below_on HB.out hb); clear hb)
      | (have HL9 := HLive; clear HL9; refine step_get rfl 5 _ rfl b0 0 rfl Tryd.underlying5 rfl (.int .u8 (p 0)) ?_ ?_; exact HR.out.cell 0 (by decide))
      | (have HL9 := HLive; clear HL9; refine step_get rfl 5 _ rfl b0 78 rfl Tryd.underlying5 rfl (.int .u8 (p 78)) ?_ ?_; exact HR.out.cell 78 (by decide))
      | (have HL9 := HLive; clear HL9; go_at_call 14; refine (text_any s _).mono ?_; rintro e w3 ⟨rfl, hb⟩; rw [HQ1.out]; have HR := Lib.hid (HR.out.later hb); have HB := Lib.hid (below_on HB.out hb); clear hb)
      | (have HL9 := HLive; clear HL9; refine step_load rfl _ rfl b0 rfl p ?_ ?_; exact HR.out)
      | (have HL9 := HLive; clear HL9; go_at_call 9; refine (mvText_any p ⟨s, s, 0, (n : Int), false⟩ _ HFp.out HFm.out (HG.out.on HB.out)).mono ?_; rintro e w4 ⟨rfl, hb⟩; rw [HX.out]; have HR := Lib.hid (HR.out.later hb); have HB := Lib.hid (below_on HB.out hb); clear hb)
      | (have HL9 := HLive; clear HL9; go_at_call 11; rw [← HLt.out]; have HR := Lib.hid (HR.out.later (New.alloc _ (Obj.cells #[Value.int .u8 80, Value.int .u8 64] 5)).below); have HB := Lib.hid (HB.out.trans ((New.alloc _ (Obj.cells #[Value.int .u8 80, Value.int .u8 64] 5)).below.mono HB.out.size)); refine (mvParse_any p _ _ HLn.out HFp.out (HG.out.on HB.out) (HMx.out.on HB.out)).mono ?_; rintro e w5 ⟨rfl, hb⟩; rw [HP.out, HE.out, HLt.out]; have HR := Lib.hid (HR.out.later hb); have HB := Lib.hid (below_on HB.out hb); clear hb)
      | (have HL9 := HLive; clear HL9; refine blk_alloc rfl 33 rfl (mvA mv0) zeroMv ?_; intro b11 w6 N R; have HGb11 := Lib.hid (show w.heap.size ≤ b11 by rw [N.at_]; exact HB.out.size); have HDHRb11 := Lib.hid (show b0 ≠ b11 by rw [N.at_]; exact Nat.ne_of_lt HR.out.lt); have HR := Lib.hid (HR.out.later N.below); have HB := Lib.hid (HB.out.trans (N.below.mono HB.out.size)); have HQ := Lib.hid R; clear N R)
      | (clear HLive; refine blk_store rfl 33 _ _ rfl b11 rfl (mvA mv0) (mvA ⟨s, s, 0, 1, false⟩) rfl ?_ rfl (mv_one _) sizeMv ?_; exact HQ.out; intro w7 U R; have c3 : w7.cell? ⟨b11, 3, none⟩ = some (.int .u8 1) := Blk.cell R 3; have c0 : w7.cell? ⟨b11, 0, none⟩ = some (.int .i8 s) := Blk.cell R 0; have c1 : w7.cell? ⟨b11, 1, none⟩ = some (.int .i8 s) := Blk.cell R 1; have c2 : w7.cell? ⟨b11, 2, none⟩ = some (.int .u8 0) := Blk.cell R 2; have c4 : w7.cell? ⟨b11, 4, none⟩ = some (.bool false) := Blk.cell R 4; have HR := Lib.hid (HR.out.apart U HDHRb11.out); have HB := Lib.hid (HB.out.trans (U.below HGb11.out)); have HQ := Lib.hid R; clear U R))
  exact bodyPost_ret (results_tmp rfl _ _ _) rfl ⟨by simp, HB.out⟩
set_option maxRecDepth 100000 in
set_option maxHeartbeats 1000000 in
theorem dr_s1 (p : Nat → Int) (s k b : Int) (w : World) (hp : FitM p) (hs : -128 ≤ s ∧ s ≤ 127) (hk : 0 ≤ k ∧ k ≤ 255) (hb : 0 ≤ b ∧ b ≤ 255) (h1 : decide (s < 0) = false) (h2 : decide (63 < s) = false) (h3 : decide (9 ≤ p 0) = false) (h4 : decide (1 < p 78) = false) (hk0 : (k == 0) = false) (hk5 : decide (5 < k) = false) (hbv : b = 78) (hG : TabGo w) (hM : TabMv w) (hV : TabVar w) (hK : TabKn w) : Calls Tryd.prog 8 #[.agg (posA p), .int .i8 s, .int .u8 k, .int .u8 b] w (BoL true w) := by
  have HG := Lib.hid hG
  have HMx := Lib.hid hM
  have HV := Lib.hid hV
  have HK := Lib.hid hK
  have HB := Lib.hid (Below.refl w.heap.size w)
  have HFp := Lib.hid hp
  have hsm : smB p = true := by
    unfold smB
    rw [Bool.and_eq_true, decide_eq_true_eq, decide_eq_true_eq]
    have a := of_decide_eq_false h3
    have c := of_decide_eq_false h4
    omega
  have hq : sqB s = true := by
    rw [sqB_true]
    have a := of_decide_eq_false h1
    have c := of_decide_eq_false h2
    omega
  have ws : IntKind.i64.wrap s = s := IntWalk.i64_in s (by omega)
  obtain ⟨q, hq1⟩ : ∃ q, textZ s = q := ⟨_, rfl⟩
  have HQ1 := Lib.hid hq1
  have qs : q.size ≤ 2 := by rw [← hq1]; exact sqM_size s
  obtain ⟨x, hx⟩ : ∃ x, bz (mvT p ⟨s, s, 0, k, false⟩) = x := ⟨_, rfl⟩
  have HX := Lib.hid hx
  have HFm := Lib.hid (show FitV ⟨s, s, 0, k, false⟩ from ⟨hs, hs, (by show (0 : Int) ≤ 0 ∧ (0 : Int) ≤ 255; decide), hk⟩)
  obtain ⟨u, hu⟩ : ∃ u, two b.toNat 64 = u := ⟨_, rfl⟩
  have hcv : ∀ w : World, (convert 47 9 (.slice (some ⟨w.heap.size, 0, none⟩) 2 2)).run Tryd.prog (w.alloc (.cells #[.int .u8 b, .int .u8 64] 5)) = .ok (.string u) (w.alloc (.cells #[.int .u8 b, .int .u8 64] 5)) := fun w => by rw [← hu]; exact conv2 w b 64
  have us : u.size = 2 := by rw [← hu]; rfl
  have HLt := Lib.hid (show bz (byZ b :: 64 :: sqM s) = u ++ q by
    rw [← hu, ← hq1, sqM_bz, show byZ b :: 64 :: sqM s = [byZ b, 64] ++ sqM s from rfl, ← bz_app]; rfl)
  have HLn := Lib.hid (show (byZ b :: 64 :: sqM s).length ≤ 10000 by
    have := sqM_len s
    simp only [List.length_cons]; omega)
  have k9 : ¬ (9223372036854775807 < u.size + q.size) := by omega
  have k8 : ¬ (9223372036854775807 < 2 + q.size) := by omega
  have c1 : 1 ≤ k := by have : k ≠ 0 := by simpa using hk0
                        omega
  have c5 : k ≤ 5 := by have := of_decide_eq_false hk5; omega
  obtain ⟨n, rfl⟩ := Int.eq_ofNat_of_zero_le hk.1
  obtain ⟨z, hz⟩ : ∃ z, bz (leF (mkZ 0 (n : Int))) = z := ⟨_, rfl⟩
  have rc : ∀ w, (Instr.slice 9 (.string ⟨#[46, 80, 78, 66, 82, 81]⟩) (some (.int .u8 (n : Int))) (some (.int .u8 ((n : Int) + 1))) none).run Tryd.prog w = .ok (.string z) w := fun w => by rw [← hz]; exact cut_kind n w (by omega) (by omega)
  have zs : z.size ≤ 1 := by rw [← hz, bz_size]; exact leF_len _
  have k1 : ¬ (9223372036854775807 < z.size + 1) := by omega
  have k2 : ¬ (9223372036854775807 < z.size + 1 + q.size) := by omega
  have exz : (x.toList == (z ++ ⟨#[64]⟩ ++ q).toList) = true := by
    rw [← hx, ← hz, ← hq1, sqM_bz, show (⟨#[64]⟩ : ByteArray) = bz [64] from rfl, bz_app, bz_app, mvT_drop hsm hq c1 c5, bz_toList, bz_toList]
    simp
  have HPv : mvP p (byZ b :: 64 :: sqM s) = some ⟨s, s, 0, 2, false⟩ := by rw [hbv]; exact drop_yes hp.turn.1 hsm hq (by decide) (by decide) (by decide +kernel)
  have HP := Lib.hid (show pmO (mvP p (byZ b :: 64 :: sqM s)) = ⟨s, s, 0, 2, false⟩ by rw [HPv]; rfl)
  have HE := Lib.hid (show enO p (mvP p (byZ b :: 64 :: sqM s)) = 0 by rw [HPv]; rfl)
  clear hG hM hV hK hp hs hq1 hx hu HPv hsm hq qs us hz zs c1
  subst hbv
  have HLive := Lib.hid trivial
  go_enter Tryd.func8, Tryd.ntmps8
  go_wp2_with (first
      | (have HL9 := HLive; clear HL9; refine step_box rfl _ rfl p rfl ?_; intro b0 w1 N R; have HB := Lib.hid (HB.out.trans (N.below.mono HB.out.size)); have HR := Lib.hid R; clear N R)
      | (have HL9 := HLive; clear HL9; go_at_call 13; refine (mawake_any _ (HG.out.on HB.out) (HMx.out.on HB.out) (HV.out.on HB.out) (HK.out.on HB.out)).mono ?_; rintro e w3 ⟨rfl, hb⟩; have HR := Lib.hid (HR.out.later hb); have HB := Lib.hid (below_on HB.out hb); clear hb)
      | (have HL9 := HLive; clear HL9; refine step_get rfl 5 _ rfl b0 0 rfl Tryd.underlying5 rfl (.int .u8 (p 0)) ?_ ?_; exact HR.out.cell 0 (by decide))
      | (have HL9 := HLive; clear HL9; refine step_get rfl 5 _ rfl b0 78 rfl Tryd.underlying5 rfl (.int .u8 (p 78)) ?_ ?_; exact HR.out.cell 78 (by decide))
      | (have HL9 := HLive; clear HL9; go_at_call 14; refine (text_any s _).mono ?_; rintro e w3 ⟨rfl, hb⟩; rw [HQ1.out]; have HR := Lib.hid (HR.out.later hb); have HB := Lib.hid (below_on HB.out hb); clear hb)
      | (have HL9 := HLive; clear HL9; refine step_load rfl _ rfl b0 rfl p ?_ ?_; exact HR.out)
      | (have HL9 := HLive; clear HL9; go_at_call 9; refine (mvText_any p ⟨s, s, 0, (n : Int), false⟩ _ HFp.out HFm.out (HG.out.on HB.out)).mono ?_; rintro e w4 ⟨rfl, hb⟩; rw [HX.out]; have HR := Lib.hid (HR.out.later hb); have HB := Lib.hid (below_on HB.out hb); clear hb)
      | (have HL9 := HLive; clear HL9; go_at_call 11; rw [← HLt.out]; have HR := Lib.hid (HR.out.later (New.alloc _ (Obj.cells #[Value.int .u8 78, Value.int .u8 64] 5)).below); have HB := Lib.hid (HB.out.trans ((New.alloc _ (Obj.cells #[Value.int .u8 78, Value.int .u8 64] 5)).below.mono HB.out.size)); refine (mvParse_any p _ _ HLn.out HFp.out (HG.out.on HB.out) (HMx.out.on HB.out)).mono ?_; rintro e w5 ⟨rfl, hb⟩; rw [HP.out, HE.out, HLt.out]; have HR := Lib.hid (HR.out.later hb); have HB := Lib.hid (below_on HB.out hb); clear hb)
      | (have HL9 := HLive; clear HL9; refine blk_alloc rfl 33 rfl (mvA mv0) zeroMv ?_; intro b11 w6 N R; have HGb11 := Lib.hid (show w.heap.size ≤ b11 by rw [N.at_]; exact HB.out.size); have HDHRb11 := Lib.hid (show b0 ≠ b11 by rw [N.at_]; exact Nat.ne_of_lt HR.out.lt); have HR := Lib.hid (HR.out.later N.below); have HB := Lib.hid (HB.out.trans (N.below.mono HB.out.size)); have HQ := Lib.hid R; clear N R)
      | (clear HLive; refine blk_store rfl 33 _ _ rfl b11 rfl (mvA mv0) (mvA ⟨s, s, 0, 2, false⟩) rfl ?_ rfl (mv_one _) sizeMv ?_; exact HQ.out; intro w7 U R; have c3 : w7.cell? ⟨b11, 3, none⟩ = some (.int .u8 2) := Blk.cell R 3; have c0 : w7.cell? ⟨b11, 0, none⟩ = some (.int .i8 s) := Blk.cell R 0; have c1 : w7.cell? ⟨b11, 1, none⟩ = some (.int .i8 s) := Blk.cell R 1; have c2 : w7.cell? ⟨b11, 2, none⟩ = some (.int .u8 0) := Blk.cell R 2; have c4 : w7.cell? ⟨b11, 4, none⟩ = some (.bool false) := Blk.cell R 4; have HR := Lib.hid (HR.out.apart U HDHRb11.out); have HB := Lib.hid (HB.out.trans (U.below HGb11.out)); have HQ := Lib.hid R; clear U R))
  exact bodyPost_ret (results_tmp rfl _ _ _) rfl ⟨by simp, HB.out⟩
set_option maxRecDepth 100000 in
set_option maxHeartbeats 1000000 in
theorem dr_s2 (p : Nat → Int) (s k b : Int) (w : World) (hp : FitM p) (hs : -128 ≤ s ∧ s ≤ 127) (hk : 0 ≤ k ∧ k ≤ 255) (hb : 0 ≤ b ∧ b ≤ 255) (h1 : decide (s < 0) = false) (h2 : decide (63 < s) = false) (h3 : decide (9 ≤ p 0) = false) (h4 : decide (1 < p 78) = false) (hk0 : (k == 0) = false) (hk5 : decide (5 < k) = false) (hbv : b = 66) (hG : TabGo w) (hM : TabMv w) (hV : TabVar w) (hK : TabKn w) : Calls Tryd.prog 8 #[.agg (posA p), .int .i8 s, .int .u8 k, .int .u8 b] w (BoL true w) := by
  have HG := Lib.hid hG
  have HMx := Lib.hid hM
  have HV := Lib.hid hV
  have HK := Lib.hid hK
  have HB := Lib.hid (Below.refl w.heap.size w)
  have HFp := Lib.hid hp
  have hsm : smB p = true := by
    unfold smB
    rw [Bool.and_eq_true, decide_eq_true_eq, decide_eq_true_eq]
    have a := of_decide_eq_false h3
    have c := of_decide_eq_false h4
    omega
  have hq : sqB s = true := by
    rw [sqB_true]
    have a := of_decide_eq_false h1
    have c := of_decide_eq_false h2
    omega
  have ws : IntKind.i64.wrap s = s := IntWalk.i64_in s (by omega)
  obtain ⟨q, hq1⟩ : ∃ q, textZ s = q := ⟨_, rfl⟩
  have HQ1 := Lib.hid hq1
  have qs : q.size ≤ 2 := by rw [← hq1]; exact sqM_size s
  obtain ⟨x, hx⟩ : ∃ x, bz (mvT p ⟨s, s, 0, k, false⟩) = x := ⟨_, rfl⟩
  have HX := Lib.hid hx
  have HFm := Lib.hid (show FitV ⟨s, s, 0, k, false⟩ from ⟨hs, hs, (by show (0 : Int) ≤ 0 ∧ (0 : Int) ≤ 255; decide), hk⟩)
  obtain ⟨u, hu⟩ : ∃ u, two b.toNat 64 = u := ⟨_, rfl⟩
  have hcv : ∀ w : World, (convert 47 9 (.slice (some ⟨w.heap.size, 0, none⟩) 2 2)).run Tryd.prog (w.alloc (.cells #[.int .u8 b, .int .u8 64] 5)) = .ok (.string u) (w.alloc (.cells #[.int .u8 b, .int .u8 64] 5)) := fun w => by rw [← hu]; exact conv2 w b 64
  have us : u.size = 2 := by rw [← hu]; rfl
  have HLt := Lib.hid (show bz (byZ b :: 64 :: sqM s) = u ++ q by
    rw [← hu, ← hq1, sqM_bz, show byZ b :: 64 :: sqM s = [byZ b, 64] ++ sqM s from rfl, ← bz_app]; rfl)
  have HLn := Lib.hid (show (byZ b :: 64 :: sqM s).length ≤ 10000 by
    have := sqM_len s
    simp only [List.length_cons]; omega)
  have k9 : ¬ (9223372036854775807 < u.size + q.size) := by omega
  have k8 : ¬ (9223372036854775807 < 2 + q.size) := by omega
  have c1 : 1 ≤ k := by have : k ≠ 0 := by simpa using hk0
                        omega
  have c5 : k ≤ 5 := by have := of_decide_eq_false hk5; omega
  obtain ⟨n, rfl⟩ := Int.eq_ofNat_of_zero_le hk.1
  obtain ⟨z, hz⟩ : ∃ z, bz (leF (mkZ 0 (n : Int))) = z := ⟨_, rfl⟩
  have rc : ∀ w, (Instr.slice 9 (.string ⟨#[46, 80, 78, 66, 82, 81]⟩) (some (.int .u8 (n : Int))) (some (.int .u8 ((n : Int) + 1))) none).run Tryd.prog w = .ok (.string z) w := fun w => by rw [← hz]; exact cut_kind n w (by omega) (by omega)
  have zs : z.size ≤ 1 := by rw [← hz, bz_size]; exact leF_len _
  have k1 : ¬ (9223372036854775807 < z.size + 1) := by omega
  have k2 : ¬ (9223372036854775807 < z.size + 1 + q.size) := by omega
  have exz : (x.toList == (z ++ ⟨#[64]⟩ ++ q).toList) = true := by
    rw [← hx, ← hz, ← hq1, sqM_bz, show (⟨#[64]⟩ : ByteArray) = bz [64] from rfl, bz_app, bz_app, mvT_drop hsm hq c1 c5, bz_toList, bz_toList]
    simp
  have HPv : mvP p (byZ b :: 64 :: sqM s) = some ⟨s, s, 0, 3, false⟩ := by rw [hbv]; exact drop_yes hp.turn.1 hsm hq (by decide) (by decide) (by decide +kernel)
  have HP := Lib.hid (show pmO (mvP p (byZ b :: 64 :: sqM s)) = ⟨s, s, 0, 3, false⟩ by rw [HPv]; rfl)
  have HE := Lib.hid (show enO p (mvP p (byZ b :: 64 :: sqM s)) = 0 by rw [HPv]; rfl)
  clear hG hM hV hK hp hs hq1 hx hu HPv hsm hq qs us hz zs c1
  subst hbv
  have HLive := Lib.hid trivial
  go_enter Tryd.func8, Tryd.ntmps8
  go_wp2_with (first
      | (have HL9 := HLive; clear HL9; refine step_box rfl _ rfl p rfl ?_; intro b0 w1 N R; have HB := Lib.hid (HB.out.trans (N.below.mono HB.out.size)); have HR := Lib.hid R; clear N R)
      | (have HL9 := HLive; clear HL9; go_at_call 13; refine (mawake_any _ (HG.out.on HB.out) (HMx.out.on HB.out) (HV.out.on HB.out) (HK.out.on HB.out)).mono ?_; rintro e w3 ⟨rfl, hb⟩; have HR := Lib.hid (HR.out.later hb); have HB := Lib.hid (below_on HB.out hb); clear hb)
      | (have HL9 := HLive; clear HL9; refine step_get rfl 5 _ rfl b0 0 rfl Tryd.underlying5 rfl (.int .u8 (p 0)) ?_ ?_; exact HR.out.cell 0 (by decide))
      | (have HL9 := HLive; clear HL9; refine step_get rfl 5 _ rfl b0 78 rfl Tryd.underlying5 rfl (.int .u8 (p 78)) ?_ ?_; exact HR.out.cell 78 (by decide))
      | (have HL9 := HLive; clear HL9; go_at_call 14; refine (text_any s _).mono ?_; rintro e w3 ⟨rfl, hb⟩; rw [HQ1.out]; have HR := Lib.hid (HR.out.later hb); have HB := Lib.hid (below_on HB.out hb); clear hb)
      | (have HL9 := HLive; clear HL9; refine step_load rfl _ rfl b0 rfl p ?_ ?_; exact HR.out)
      | (have HL9 := HLive; clear HL9; go_at_call 9; refine (mvText_any p ⟨s, s, 0, (n : Int), false⟩ _ HFp.out HFm.out (HG.out.on HB.out)).mono ?_; rintro e w4 ⟨rfl, hb⟩; rw [HX.out]; have HR := Lib.hid (HR.out.later hb); have HB := Lib.hid (below_on HB.out hb); clear hb)
      | (have HL9 := HLive; clear HL9; go_at_call 11; rw [← HLt.out]; have HR := Lib.hid (HR.out.later (New.alloc _ (Obj.cells #[Value.int .u8 66, Value.int .u8 64] 5)).below); have HB := Lib.hid (HB.out.trans ((New.alloc _ (Obj.cells #[Value.int .u8 66, Value.int .u8 64] 5)).below.mono HB.out.size)); refine (mvParse_any p _ _ HLn.out HFp.out (HG.out.on HB.out) (HMx.out.on HB.out)).mono ?_; rintro e w5 ⟨rfl, hb⟩; rw [HP.out, HE.out, HLt.out]; have HR := Lib.hid (HR.out.later hb); have HB := Lib.hid (below_on HB.out hb); clear hb)
      | (have HL9 := HLive; clear HL9; refine blk_alloc rfl 33 rfl (mvA mv0) zeroMv ?_; intro b11 w6 N R; have HGb11 := Lib.hid (show w.heap.size ≤ b11 by rw [N.at_]; exact HB.out.size); have HDHRb11 := Lib.hid (show b0 ≠ b11 by rw [N.at_]; exact Nat.ne_of_lt HR.out.lt); have HR := Lib.hid (HR.out.later N.below); have HB := Lib.hid (HB.out.trans (N.below.mono HB.out.size)); have HQ := Lib.hid R; clear N R)
      | (clear HLive; refine blk_store rfl 33 _ _ rfl b11 rfl (mvA mv0) (mvA ⟨s, s, 0, 3, false⟩) rfl ?_ rfl (mv_one _) sizeMv ?_; exact HQ.out; intro w7 U R; have c3 : w7.cell? ⟨b11, 3, none⟩ = some (.int .u8 3) := Blk.cell R 3; have c0 : w7.cell? ⟨b11, 0, none⟩ = some (.int .i8 s) := Blk.cell R 0; have c1 : w7.cell? ⟨b11, 1, none⟩ = some (.int .i8 s) := Blk.cell R 1; have c2 : w7.cell? ⟨b11, 2, none⟩ = some (.int .u8 0) := Blk.cell R 2; have c4 : w7.cell? ⟨b11, 4, none⟩ = some (.bool false) := Blk.cell R 4; have HR := Lib.hid (HR.out.apart U HDHRb11.out); have HB := Lib.hid (HB.out.trans (U.below HGb11.out)); have HQ := Lib.hid R; clear U R))
  exact bodyPost_ret (results_tmp rfl _ _ _) rfl ⟨by simp, HB.out⟩
set_option maxRecDepth 100000 in
set_option maxHeartbeats 1000000 in
theorem dr_s3 (p : Nat → Int) (s k b : Int) (w : World) (hp : FitM p) (hs : -128 ≤ s ∧ s ≤ 127) (hk : 0 ≤ k ∧ k ≤ 255) (hb : 0 ≤ b ∧ b ≤ 255) (h1 : decide (s < 0) = false) (h2 : decide (63 < s) = false) (h3 : decide (9 ≤ p 0) = false) (h4 : decide (1 < p 78) = false) (hk0 : (k == 0) = false) (hk5 : decide (5 < k) = false) (hbv : b = 82) (hG : TabGo w) (hM : TabMv w) (hV : TabVar w) (hK : TabKn w) : Calls Tryd.prog 8 #[.agg (posA p), .int .i8 s, .int .u8 k, .int .u8 b] w (BoL true w) := by
  have HG := Lib.hid hG
  have HMx := Lib.hid hM
  have HV := Lib.hid hV
  have HK := Lib.hid hK
  have HB := Lib.hid (Below.refl w.heap.size w)
  have HFp := Lib.hid hp
  have hsm : smB p = true := by
    unfold smB
    rw [Bool.and_eq_true, decide_eq_true_eq, decide_eq_true_eq]
    have a := of_decide_eq_false h3
    have c := of_decide_eq_false h4
    omega
  have hq : sqB s = true := by
    rw [sqB_true]
    have a := of_decide_eq_false h1
    have c := of_decide_eq_false h2
    omega
  have ws : IntKind.i64.wrap s = s := IntWalk.i64_in s (by omega)
  obtain ⟨q, hq1⟩ : ∃ q, textZ s = q := ⟨_, rfl⟩
  have HQ1 := Lib.hid hq1
  have qs : q.size ≤ 2 := by rw [← hq1]; exact sqM_size s
  obtain ⟨x, hx⟩ : ∃ x, bz (mvT p ⟨s, s, 0, k, false⟩) = x := ⟨_, rfl⟩
  have HX := Lib.hid hx
  have HFm := Lib.hid (show FitV ⟨s, s, 0, k, false⟩ from ⟨hs, hs, (by show (0 : Int) ≤ 0 ∧ (0 : Int) ≤ 255; decide), hk⟩)
  obtain ⟨u, hu⟩ : ∃ u, two b.toNat 64 = u := ⟨_, rfl⟩
  have hcv : ∀ w : World, (convert 47 9 (.slice (some ⟨w.heap.size, 0, none⟩) 2 2)).run Tryd.prog (w.alloc (.cells #[.int .u8 b, .int .u8 64] 5)) = .ok (.string u) (w.alloc (.cells #[.int .u8 b, .int .u8 64] 5)) := fun w => by rw [← hu]; exact conv2 w b 64
  have us : u.size = 2 := by rw [← hu]; rfl
  have HLt := Lib.hid (show bz (byZ b :: 64 :: sqM s) = u ++ q by
    rw [← hu, ← hq1, sqM_bz, show byZ b :: 64 :: sqM s = [byZ b, 64] ++ sqM s from rfl, ← bz_app]; rfl)
  have HLn := Lib.hid (show (byZ b :: 64 :: sqM s).length ≤ 10000 by
    have := sqM_len s
    simp only [List.length_cons]; omega)
  have k9 : ¬ (9223372036854775807 < u.size + q.size) := by omega
  have k8 : ¬ (9223372036854775807 < 2 + q.size) := by omega
  have c1 : 1 ≤ k := by have : k ≠ 0 := by simpa using hk0
                        omega
  have c5 : k ≤ 5 := by have := of_decide_eq_false hk5; omega
  obtain ⟨n, rfl⟩ := Int.eq_ofNat_of_zero_le hk.1
  obtain ⟨z, hz⟩ : ∃ z, bz (leF (mkZ 0 (n : Int))) = z := ⟨_, rfl⟩
  have rc : ∀ w, (Instr.slice 9 (.string ⟨#[46, 80, 78, 66, 82, 81]⟩) (some (.int .u8 (n : Int))) (some (.int .u8 ((n : Int) + 1))) none).run Tryd.prog w = .ok (.string z) w := fun w => by rw [← hz]; exact cut_kind n w (by omega) (by omega)
  have zs : z.size ≤ 1 := by rw [← hz, bz_size]; exact leF_len _
  have k1 : ¬ (9223372036854775807 < z.size + 1) := by omega
  have k2 : ¬ (9223372036854775807 < z.size + 1 + q.size) := by omega
  have exz : (x.toList == (z ++ ⟨#[64]⟩ ++ q).toList) = true := by
    rw [← hx, ← hz, ← hq1, sqM_bz, show (⟨#[64]⟩ : ByteArray) = bz [64] from rfl, bz_app, bz_app, mvT_drop hsm hq c1 c5, bz_toList, bz_toList]
    simp
  have HPv : mvP p (byZ b :: 64 :: sqM s) = some ⟨s, s, 0, 4, false⟩ := by rw [hbv]; exact drop_yes hp.turn.1 hsm hq (by decide) (by decide) (by decide +kernel)
  have HP := Lib.hid (show pmO (mvP p (byZ b :: 64 :: sqM s)) = ⟨s, s, 0, 4, false⟩ by rw [HPv]; rfl)
  have HE := Lib.hid (show enO p (mvP p (byZ b :: 64 :: sqM s)) = 0 by rw [HPv]; rfl)
  clear hG hM hV hK hp hs hq1 hx hu HPv hsm hq qs us hz zs c1
  subst hbv
  have HLive := Lib.hid trivial
  go_enter Tryd.func8, Tryd.ntmps8
  go_wp2_with (first
      | (have HL9 := HLive; clear HL9; refine step_box rfl _ rfl p rfl ?_; intro b0 w1 N R; have HB := Lib.hid (HB.out.trans (N.below.mono HB.out.size)); have HR := Lib.hid R; clear N R)
      | (have HL9 := HLive; clear HL9; go_at_call 13; refine (mawake_any _ (HG.out.on HB.out) (HMx.out.on HB.out) (HV.out.on HB.out) (HK.out.on HB.out)).mono ?_; rintro e w3 ⟨rfl, hb⟩; have HR := Lib.hid (HR.out.later hb); have HB := Lib.hid (below_on HB.out hb); clear hb)
      | (have HL9 := HLive; clear HL9; refine step_get rfl 5 _ rfl b0 0 rfl Tryd.underlying5 rfl (.int .u8 (p 0)) ?_ ?_; exact HR.out.cell 0 (by decide))
      | (have HL9 := HLive; clear HL9; refine step_get rfl 5 _ rfl b0 78 rfl Tryd.underlying5 rfl (.int .u8 (p 78)) ?_ ?_; exact HR.out.cell 78 (by decide))
      | (have HL9 := HLive; clear HL9; go_at_call 14; refine (text_any s _).mono ?_; rintro e w3 ⟨rfl, hb⟩; rw [HQ1.out]; have HR := Lib.hid (HR.out.later hb); have HB := Lib.hid (below_on HB.out hb); clear hb)
      | (have HL9 := HLive; clear HL9; refine step_load rfl _ rfl b0 rfl p ?_ ?_; exact HR.out)
      | (have HL9 := HLive; clear HL9; go_at_call 9; refine (mvText_any p ⟨s, s, 0, (n : Int), false⟩ _ HFp.out HFm.out (HG.out.on HB.out)).mono ?_; rintro e w4 ⟨rfl, hb⟩; rw [HX.out]; have HR := Lib.hid (HR.out.later hb); have HB := Lib.hid (below_on HB.out hb); clear hb)
      | (have HL9 := HLive; clear HL9; go_at_call 11; rw [← HLt.out]; have HR := Lib.hid (HR.out.later (New.alloc _ (Obj.cells #[Value.int .u8 82, Value.int .u8 64] 5)).below); have HB := Lib.hid (HB.out.trans ((New.alloc _ (Obj.cells #[Value.int .u8 82, Value.int .u8 64] 5)).below.mono HB.out.size)); refine (mvParse_any p _ _ HLn.out HFp.out (HG.out.on HB.out) (HMx.out.on HB.out)).mono ?_; rintro e w5 ⟨rfl, hb⟩; rw [HP.out, HE.out, HLt.out]; have HR := Lib.hid (HR.out.later hb); have HB := Lib.hid (below_on HB.out hb); clear hb)
      | (have HL9 := HLive; clear HL9; refine blk_alloc rfl 33 rfl (mvA mv0) zeroMv ?_; intro b11 w6 N R; have HGb11 := Lib.hid (show w.heap.size ≤ b11 by rw [N.at_]; exact HB.out.size); have HDHRb11 := Lib.hid (show b0 ≠ b11 by rw [N.at_]; exact Nat.ne_of_lt HR.out.lt); have HR := Lib.hid (HR.out.later N.below); have HB := Lib.hid (HB.out.trans (N.below.mono HB.out.size)); have HQ := Lib.hid R; clear N R)
      | (clear HLive; refine blk_store rfl 33 _ _ rfl b11 rfl (mvA mv0) (mvA ⟨s, s, 0, 4, false⟩) rfl ?_ rfl (mv_one _) sizeMv ?_; exact HQ.out; intro w7 U R; have c3 : w7.cell? ⟨b11, 3, none⟩ = some (.int .u8 4) := Blk.cell R 3; have c0 : w7.cell? ⟨b11, 0, none⟩ = some (.int .i8 s) := Blk.cell R 0; have c1 : w7.cell? ⟨b11, 1, none⟩ = some (.int .i8 s) := Blk.cell R 1; have c2 : w7.cell? ⟨b11, 2, none⟩ = some (.int .u8 0) := Blk.cell R 2; have c4 : w7.cell? ⟨b11, 4, none⟩ = some (.bool false) := Blk.cell R 4; have HR := Lib.hid (HR.out.apart U HDHRb11.out); have HB := Lib.hid (HB.out.trans (U.below HGb11.out)); have HQ := Lib.hid R; clear U R))
  exact bodyPost_ret (results_tmp rfl _ _ _) rfl ⟨by simp, HB.out⟩
set_option maxRecDepth 100000 in
set_option maxHeartbeats 1000000 in
theorem dr_s4 (p : Nat → Int) (s k b : Int) (w : World) (hp : FitM p) (hs : -128 ≤ s ∧ s ≤ 127) (hk : 0 ≤ k ∧ k ≤ 255) (hb : 0 ≤ b ∧ b ≤ 255) (h1 : decide (s < 0) = false) (h2 : decide (63 < s) = false) (h3 : decide (9 ≤ p 0) = false) (h4 : decide (1 < p 78) = false) (hk0 : (k == 0) = false) (hk5 : decide (5 < k) = false) (hbv : b = 81) (hG : TabGo w) (hM : TabMv w) (hV : TabVar w) (hK : TabKn w) : Calls Tryd.prog 8 #[.agg (posA p), .int .i8 s, .int .u8 k, .int .u8 b] w (BoL true w) := by
  have HG := Lib.hid hG
  have HMx := Lib.hid hM
  have HV := Lib.hid hV
  have HK := Lib.hid hK
  have HB := Lib.hid (Below.refl w.heap.size w)
  have HFp := Lib.hid hp
  have hsm : smB p = true := by
    unfold smB
    rw [Bool.and_eq_true, decide_eq_true_eq, decide_eq_true_eq]
    have a := of_decide_eq_false h3
    have c := of_decide_eq_false h4
    omega
  have hq : sqB s = true := by
    rw [sqB_true]
    have a := of_decide_eq_false h1
    have c := of_decide_eq_false h2
    omega
  have ws : IntKind.i64.wrap s = s := IntWalk.i64_in s (by omega)
  obtain ⟨q, hq1⟩ : ∃ q, textZ s = q := ⟨_, rfl⟩
  have HQ1 := Lib.hid hq1
  have qs : q.size ≤ 2 := by rw [← hq1]; exact sqM_size s
  obtain ⟨x, hx⟩ : ∃ x, bz (mvT p ⟨s, s, 0, k, false⟩) = x := ⟨_, rfl⟩
  have HX := Lib.hid hx
  have HFm := Lib.hid (show FitV ⟨s, s, 0, k, false⟩ from ⟨hs, hs, (by show (0 : Int) ≤ 0 ∧ (0 : Int) ≤ 255; decide), hk⟩)
  obtain ⟨u, hu⟩ : ∃ u, two b.toNat 64 = u := ⟨_, rfl⟩
  have hcv : ∀ w : World, (convert 47 9 (.slice (some ⟨w.heap.size, 0, none⟩) 2 2)).run Tryd.prog (w.alloc (.cells #[.int .u8 b, .int .u8 64] 5)) = .ok (.string u) (w.alloc (.cells #[.int .u8 b, .int .u8 64] 5)) := fun w => by rw [← hu]; exact conv2 w b 64
  have us : u.size = 2 := by rw [← hu]; rfl
  have HLt := Lib.hid (show bz (byZ b :: 64 :: sqM s) = u ++ q by
    rw [← hu, ← hq1, sqM_bz, show byZ b :: 64 :: sqM s = [byZ b, 64] ++ sqM s from rfl, ← bz_app]; rfl)
  have HLn := Lib.hid (show (byZ b :: 64 :: sqM s).length ≤ 10000 by
    have := sqM_len s
    simp only [List.length_cons]; omega)
  have k9 : ¬ (9223372036854775807 < u.size + q.size) := by omega
  have k8 : ¬ (9223372036854775807 < 2 + q.size) := by omega
  have c1 : 1 ≤ k := by have : k ≠ 0 := by simpa using hk0
                        omega
  have c5 : k ≤ 5 := by have := of_decide_eq_false hk5; omega
  obtain ⟨n, rfl⟩ := Int.eq_ofNat_of_zero_le hk.1
  obtain ⟨z, hz⟩ : ∃ z, bz (leF (mkZ 0 (n : Int))) = z := ⟨_, rfl⟩
  have rc : ∀ w, (Instr.slice 9 (.string ⟨#[46, 80, 78, 66, 82, 81]⟩) (some (.int .u8 (n : Int))) (some (.int .u8 ((n : Int) + 1))) none).run Tryd.prog w = .ok (.string z) w := fun w => by rw [← hz]; exact cut_kind n w (by omega) (by omega)
  have zs : z.size ≤ 1 := by rw [← hz, bz_size]; exact leF_len _
  have k1 : ¬ (9223372036854775807 < z.size + 1) := by omega
  have k2 : ¬ (9223372036854775807 < z.size + 1 + q.size) := by omega
  have exz : (x.toList == (z ++ ⟨#[64]⟩ ++ q).toList) = true := by
    rw [← hx, ← hz, ← hq1, sqM_bz, show (⟨#[64]⟩ : ByteArray) = bz [64] from rfl, bz_app, bz_app, mvT_drop hsm hq c1 c5, bz_toList, bz_toList]
    simp
  have HPv : mvP p (byZ b :: 64 :: sqM s) = some ⟨s, s, 0, 5, false⟩ := by rw [hbv]; exact drop_yes hp.turn.1 hsm hq (by decide) (by decide) (by decide +kernel)
  have HP := Lib.hid (show pmO (mvP p (byZ b :: 64 :: sqM s)) = ⟨s, s, 0, 5, false⟩ by rw [HPv]; rfl)
  have HE := Lib.hid (show enO p (mvP p (byZ b :: 64 :: sqM s)) = 0 by rw [HPv]; rfl)
  clear hG hM hV hK hp hs hq1 hx hu HPv hsm hq qs us hz zs c1
  subst hbv
  have HLive := Lib.hid trivial
  go_enter Tryd.func8, Tryd.ntmps8
  go_wp2_with (first
      | (have HL9 := HLive; clear HL9; refine step_box rfl _ rfl p rfl ?_; intro b0 w1 N R; have HB := Lib.hid (HB.out.trans (N.below.mono HB.out.size)); have HR := Lib.hid R; clear N R)
      | (have HL9 := HLive; clear HL9; go_at_call 13; refine (mawake_any _ (HG.out.on HB.out) (HMx.out.on HB.out) (HV.out.on HB.out) (HK.out.on HB.out)).mono ?_; rintro e w3 ⟨rfl, hb⟩; have HR := Lib.hid (HR.out.later hb); have HB := Lib.hid (below_on HB.out hb); clear hb)
      | (have HL9 := HLive; clear HL9; refine step_get rfl 5 _ rfl b0 0 rfl Tryd.underlying5 rfl (.int .u8 (p 0)) ?_ ?_; exact HR.out.cell 0 (by decide))
      | (have HL9 := HLive; clear HL9; refine step_get rfl 5 _ rfl b0 78 rfl Tryd.underlying5 rfl (.int .u8 (p 78)) ?_ ?_; exact HR.out.cell 78 (by decide))
      | (have HL9 := HLive; clear HL9; go_at_call 14; refine (text_any s _).mono ?_; rintro e w3 ⟨rfl, hb⟩; rw [HQ1.out]; have HR := Lib.hid (HR.out.later hb); have HB := Lib.hid (below_on HB.out hb); clear hb)
      | (have HL9 := HLive; clear HL9; refine step_load rfl _ rfl b0 rfl p ?_ ?_; exact HR.out)
      | (have HL9 := HLive; clear HL9; go_at_call 9; refine (mvText_any p ⟨s, s, 0, (n : Int), false⟩ _ HFp.out HFm.out (HG.out.on HB.out)).mono ?_; rintro e w4 ⟨rfl, hb⟩; rw [HX.out]; have HR := Lib.hid (HR.out.later hb); have HB := Lib.hid (below_on HB.out hb); clear hb)
      | (have HL9 := HLive; clear HL9; go_at_call 11; rw [← HLt.out]; have HR := Lib.hid (HR.out.later (New.alloc _ (Obj.cells #[Value.int .u8 81, Value.int .u8 64] 5)).below); have HB := Lib.hid (HB.out.trans ((New.alloc _ (Obj.cells #[Value.int .u8 81, Value.int .u8 64] 5)).below.mono HB.out.size)); refine (mvParse_any p _ _ HLn.out HFp.out (HG.out.on HB.out) (HMx.out.on HB.out)).mono ?_; rintro e w5 ⟨rfl, hb⟩; rw [HP.out, HE.out, HLt.out]; have HR := Lib.hid (HR.out.later hb); have HB := Lib.hid (below_on HB.out hb); clear hb)
      | (have HL9 := HLive; clear HL9; refine blk_alloc rfl 33 rfl (mvA mv0) zeroMv ?_; intro b11 w6 N R; have HGb11 := Lib.hid (show w.heap.size ≤ b11 by rw [N.at_]; exact HB.out.size); have HDHRb11 := Lib.hid (show b0 ≠ b11 by rw [N.at_]; exact Nat.ne_of_lt HR.out.lt); have HR := Lib.hid (HR.out.later N.below); have HB := Lib.hid (HB.out.trans (N.below.mono HB.out.size)); have HQ := Lib.hid R; clear N R)
      | (clear HLive; refine blk_store rfl 33 _ _ rfl b11 rfl (mvA mv0) (mvA ⟨s, s, 0, 5, false⟩) rfl ?_ rfl (mv_one _) sizeMv ?_; exact HQ.out; intro w7 U R; have c3 : w7.cell? ⟨b11, 3, none⟩ = some (.int .u8 5) := Blk.cell R 3; have c0 : w7.cell? ⟨b11, 0, none⟩ = some (.int .i8 s) := Blk.cell R 0; have c1 : w7.cell? ⟨b11, 1, none⟩ = some (.int .i8 s) := Blk.cell R 1; have c2 : w7.cell? ⟨b11, 2, none⟩ = some (.int .u8 0) := Blk.cell R 2; have c4 : w7.cell? ⟨b11, 4, none⟩ = some (.bool false) := Blk.cell R 4; have HR := Lib.hid (HR.out.apart U HDHRb11.out); have HB := Lib.hid (HB.out.trans (U.below HGb11.out)); have HQ := Lib.hid R; clear U R))
  exact bodyPost_ret (results_tmp rfl _ _ _) rfl ⟨by simp, HB.out⟩
set_option maxRecDepth 100000 in
set_option maxHeartbeats 1000000 in
theorem dr_s5 (p : Nat → Int) (s k b : Int) (w : World) (hp : FitM p) (hs : -128 ≤ s ∧ s ≤ 127) (hk : 0 ≤ k ∧ k ≤ 255) (hb : 0 ≤ b ∧ b ≤ 255) (h1 : decide (s < 0) = false) (h2 : decide (63 < s) = false) (h3 : decide (9 ≤ p 0) = false) (h4 : decide (1 < p 78) = false) (hk0 : (k == 0) = false) (hk5 : decide (5 < k) = false) (hb80 : (b == 80) = false) (hb78 : (b == 78) = false) (hb66 : (b == 66) = false) (hb82 : (b == 82) = false) (hb81 : (b == 81) = false) (hG : TabGo w) (hM : TabMv w) (hV : TabVar w) (hK : TabKn w) : Calls Tryd.prog 8 #[.agg (posA p), .int .i8 s, .int .u8 k, .int .u8 b] w (BoL true w) := by
  have HG := Lib.hid hG
  have HMx := Lib.hid hM
  have HV := Lib.hid hV
  have HK := Lib.hid hK
  have HB := Lib.hid (Below.refl w.heap.size w)
  have HFp := Lib.hid hp
  have hsm : smB p = true := by
    unfold smB
    rw [Bool.and_eq_true, decide_eq_true_eq, decide_eq_true_eq]
    have a := of_decide_eq_false h3
    have c := of_decide_eq_false h4
    omega
  have hq : sqB s = true := by
    rw [sqB_true]
    have a := of_decide_eq_false h1
    have c := of_decide_eq_false h2
    omega
  have ws : IntKind.i64.wrap s = s := IntWalk.i64_in s (by omega)
  obtain ⟨q, hq1⟩ : ∃ q, textZ s = q := ⟨_, rfl⟩
  have HQ1 := Lib.hid hq1
  have qs : q.size ≤ 2 := by rw [← hq1]; exact sqM_size s
  obtain ⟨x, hx⟩ : ∃ x, bz (mvT p ⟨s, s, 0, k, false⟩) = x := ⟨_, rfl⟩
  have HX := Lib.hid hx
  have HFm := Lib.hid (show FitV ⟨s, s, 0, k, false⟩ from ⟨hs, hs, (by show (0 : Int) ≤ 0 ∧ (0 : Int) ≤ 255; decide), hk⟩)
  obtain ⟨u, hu⟩ : ∃ u, two b.toNat 64 = u := ⟨_, rfl⟩
  have hcv : ∀ w : World, (convert 47 9 (.slice (some ⟨w.heap.size, 0, none⟩) 2 2)).run Tryd.prog (w.alloc (.cells #[.int .u8 b, .int .u8 64] 5)) = .ok (.string u) (w.alloc (.cells #[.int .u8 b, .int .u8 64] 5)) := fun w => by rw [← hu]; exact conv2 w b 64
  have us : u.size = 2 := by rw [← hu]; rfl
  have HLt := Lib.hid (show bz (byZ b :: 64 :: sqM s) = u ++ q by
    rw [← hu, ← hq1, sqM_bz, show byZ b :: 64 :: sqM s = [byZ b, 64] ++ sqM s from rfl, ← bz_app]; rfl)
  have HLn := Lib.hid (show (byZ b :: 64 :: sqM s).length ≤ 10000 by
    have := sqM_len s
    simp only [List.length_cons]; omega)
  have k9 : ¬ (9223372036854775807 < u.size + q.size) := by omega
  have k8 : ¬ (9223372036854775807 < 2 + q.size) := by omega
  have c1 : 1 ≤ k := by have : k ≠ 0 := by simpa using hk0
                        omega
  have c5 : k ≤ 5 := by have := of_decide_eq_false hk5; omega
  obtain ⟨n, rfl⟩ := Int.eq_ofNat_of_zero_le hk.1
  obtain ⟨z, hz⟩ : ∃ z, bz (leF (mkZ 0 (n : Int))) = z := ⟨_, rfl⟩
  have rc : ∀ w, (Instr.slice 9 (.string ⟨#[46, 80, 78, 66, 82, 81]⟩) (some (.int .u8 (n : Int))) (some (.int .u8 ((n : Int) + 1))) none).run Tryd.prog w = .ok (.string z) w := fun w => by rw [← hz]; exact cut_kind n w (by omega) (by omega)
  have zs : z.size ≤ 1 := by rw [← hz, bz_size]; exact leF_len _
  have k1 : ¬ (9223372036854775807 < z.size + 1) := by omega
  have k2 : ¬ (9223372036854775807 < z.size + 1 + q.size) := by omega
  have exz : (x.toList == (z ++ ⟨#[64]⟩ ++ q).toList) = true := by
    rw [← hx, ← hz, ← hq1, sqM_bz, show (⟨#[64]⟩ : ByteArray) = bz [64] from rfl, bz_app, bz_app, mvT_drop hsm hq c1 c5, bz_toList, bz_toList]
    simp
  have HPv : mvP p (byZ b :: 64 :: sqM s) = none := drop_no (by
    have e := byZ_nat8 hb.1 hb.2
    rw [beq_eq_false_iff_ne] at hb80 hb78 hb66 hb82 hb81
    omega)
  have HP := Lib.hid (show pmO (mvP p (byZ b :: 64 :: sqM s)) = ⟨0, 0, 0, 0, false⟩ by rw [HPv]; rfl)
  have HE := Lib.hid (show enO p (mvP p (byZ b :: 64 :: sqM s)) = 5 by rw [HPv]; show (bif smB p then (5 : Int) else 2) = 5; rw [hsm]; rfl)
  clear hG hM hV hK hp hs hq1 hx hu HPv hsm hq qs us hz zs c1
  have HLive := Lib.hid trivial
  go_enter Tryd.func8, Tryd.ntmps8
  go_wp2_with (first
      | (have HL9 := HLive; clear HL9; refine step_box rfl _ rfl p rfl ?_; intro b0 w1 N R; have HB := Lib.hid (HB.out.trans (N.below.mono HB.out.size)); have HR := Lib.hid R; clear N R)
      | (have HL9 := HLive; clear HL9; go_at_call 13; refine (mawake_any _ (HG.out.on HB.out) (HMx.out.on HB.out) (HV.out.on HB.out) (HK.out.on HB.out)).mono ?_; rintro e w3 ⟨rfl, hb⟩; have HR := Lib.hid (HR.out.later hb); have HB := Lib.hid (below_on HB.out hb); clear hb)
      | (have HL9 := HLive; clear HL9; refine step_get rfl 5 _ rfl b0 0 rfl Tryd.underlying5 rfl (.int .u8 (p 0)) ?_ ?_; exact HR.out.cell 0 (by decide))
      | (have HL9 := HLive; clear HL9; refine step_get rfl 5 _ rfl b0 78 rfl Tryd.underlying5 rfl (.int .u8 (p 78)) ?_ ?_; exact HR.out.cell 78 (by decide))
      | (have HL9 := HLive; clear HL9; go_at_call 14; refine (text_any s _).mono ?_; rintro e w3 ⟨rfl, hb⟩; rw [HQ1.out]; have HR := Lib.hid (HR.out.later hb); have HB := Lib.hid (below_on HB.out hb); clear hb)
      | (have HL9 := HLive; clear HL9; refine step_load rfl _ rfl b0 rfl p ?_ ?_; exact HR.out)
      | (have HL9 := HLive; clear HL9; go_at_call 9; refine (mvText_any p ⟨s, s, 0, (n : Int), false⟩ _ HFp.out HFm.out (HG.out.on HB.out)).mono ?_; rintro e w4 ⟨rfl, hb⟩; rw [HX.out]; have HR := Lib.hid (HR.out.later hb); have HB := Lib.hid (below_on HB.out hb); clear hb)
      | (have HL9 := HLive; clear HL9; go_at_call 11; rw [← HLt.out]; have HR := Lib.hid (HR.out.later (New.alloc _ (Obj.cells #[Value.int .u8 b, Value.int .u8 64] 5)).below); have HB := Lib.hid (HB.out.trans ((New.alloc _ (Obj.cells #[Value.int .u8 b, Value.int .u8 64] 5)).below.mono HB.out.size)); refine (mvParse_any p _ _ HLn.out HFp.out (HG.out.on HB.out) (HMx.out.on HB.out)).mono ?_; rintro e w5 ⟨rfl, hb⟩; rw [HP.out, HE.out, HLt.out]; have HR := Lib.hid (HR.out.later hb); have HB := Lib.hid (below_on HB.out hb); clear hb)
      | (have HL9 := HLive; clear HL9; refine blk_alloc rfl 33 rfl (mvA mv0) zeroMv ?_; intro b11 w6 N R; have HGb11 := Lib.hid (show w.heap.size ≤ b11 by rw [N.at_]; exact HB.out.size); have HDHRb11 := Lib.hid (show b0 ≠ b11 by rw [N.at_]; exact Nat.ne_of_lt HR.out.lt); have HR := Lib.hid (HR.out.later N.below); have HB := Lib.hid (HB.out.trans (N.below.mono HB.out.size)); have HQ := Lib.hid R; clear N R)
      | (have HL9 := HLive; clear HL9; refine blk_store rfl 33 _ _ rfl b11 rfl (mvA mv0) (mvA ⟨0, 0, 0, 0, false⟩) rfl ?_ rfl (mv_one _) sizeMv ?_; exact HQ.out; intro w7 U R; have HR := Lib.hid (HR.out.apart U HDHRb11.out); have HB := Lib.hid (HB.out.trans (U.below HGb11.out)); have HQ := Lib.hid R; clear U R)
      | (clear HLive; refine step_get rfl 5 _ rfl b11 3 rfl Tryd.underlying5 rfl (.int .u8 0) ?_ ?_; exact Blk.cell HQ.out 3))
  exact bodyPost_ret (results_tmp rfl _ _ _) rfl ⟨by simp, HB.out⟩
theorem walk (p : Nat → Int) (s k b : Int) (hw : WfP p) (hs : (Lit.int .i8 s).wf = true) (hk : (Lit.int .u8 k).wf = true) (hb : (Lit.int .u8 b).wf = true) (w : World) (hV : TabVar w) (hK : TabKn w) (hG : TabGo w) (hM : TabMv w) :
    Calls Tryd.prog 8 #[.agg (posA p), .int .i8 s, .int .u8 k, .int .u8 b] w fun e w' => e = .returned (.bool true) ∧ Below w.heap.size w w' := by
  have hp := FitM.of hw
  have hs : -128 ≤ s ∧ s ≤ 127 := by simp only [Lit.wf, Bool.and_eq_true, decide_eq_true_eq] at hs; exact hs
  have hk := u8_rng hk
  have hb := u8_rng hb
  cases h1 : decide (s < 0)
  case true => exact dr_out0 p s k b w hp hs hk hb h1 hG hM hV hK
  cases h2 : decide (63 < s)
  case true => exact dr_out1 p s k b w hp hs hk hb h1 h2 hG hM hV hK
  cases h3 : decide (9 ≤ p 0)
  case true => exact dr_out2 p s k b w hp hs hk hb h1 h2 h3 hG hM hV hK
  cases h4 : decide (1 < p 78)
  case true => exact dr_out3 p s k b w hp hs hk hb h1 h2 h3 h4 hG hM hV hK
  cases hk0 : (k == 0)
  · cases hk5 : decide (5 < k)
    · cases hb80 : (b == 80)
      case true => exact dr_s0 p s k b w hp hs hk hb h1 h2 h3 h4 hk0 hk5 (by simpa using hb80) hG hM hV hK
      cases hb78 : (b == 78)
      case true => exact dr_s1 p s k b w hp hs hk hb h1 h2 h3 h4 hk0 hk5 (by simpa using hb78) hG hM hV hK
      cases hb66 : (b == 66)
      case true => exact dr_s2 p s k b w hp hs hk hb h1 h2 h3 h4 hk0 hk5 (by simpa using hb66) hG hM hV hK
      cases hb82 : (b == 82)
      case true => exact dr_s3 p s k b w hp hs hk hb h1 h2 h3 h4 hk0 hk5 (by simpa using hb82) hG hM hV hK
      cases hb81 : (b == 81)
      case true => exact dr_s4 p s k b w hp hs hk hb h1 h2 h3 h4 hk0 hk5 (by simpa using hb81) hG hM hV hK
      exact dr_s5 p s k b w hp hs hk hb h1 h2 h3 h4 hk0 hk5 hb80 hb78 hb66 hb82 hb81 hG hM hV hK
    · cases hb80 : (b == 80)
      case true => exact dr_g0 p s k b w hp hs hk hb h1 h2 h3 h4 hk0 hk5 (by simpa using hb80) hG hM hV hK
      cases hb78 : (b == 78)
      case true => exact dr_g1 p s k b w hp hs hk hb h1 h2 h3 h4 hk0 hk5 (by simpa using hb78) hG hM hV hK
      cases hb66 : (b == 66)
      case true => exact dr_g2 p s k b w hp hs hk hb h1 h2 h3 h4 hk0 hk5 (by simpa using hb66) hG hM hV hK
      cases hb82 : (b == 82)
      case true => exact dr_g3 p s k b w hp hs hk hb h1 h2 h3 h4 hk0 hk5 (by simpa using hb82) hG hM hV hK
      cases hb81 : (b == 81)
      case true => exact dr_g4 p s k b w hp hs hk hb h1 h2 h3 h4 hk0 hk5 (by simpa using hb81) hG hM hV hK
      exact dr_g5 p s k b w hp hs hk hb h1 h2 h3 h4 hk0 hk5 hb80 hb78 hb66 hb82 hb81 hG hM hV hK
  · cases hb80 : (b == 80)
    case true => exact dr_z0 p s k b w hp hs hk hb h1 h2 h3 h4 hk0 (by simpa using hb80) hG hM hV hK
    cases hb78 : (b == 78)
    case true => exact dr_z1 p s k b w hp hs hk hb h1 h2 h3 h4 hk0 (by simpa using hb78) hG hM hV hK
    cases hb66 : (b == 66)
    case true => exact dr_z2 p s k b w hp hs hk hb h1 h2 h3 h4 hk0 (by simpa using hb66) hG hM hV hK
    cases hb82 : (b == 82)
    case true => exact dr_z3 p s k b w hp hs hk hb h1 h2 h3 h4 hk0 (by simpa using hb82) hG hM hV hK
    cases hb81 : (b == 81)
    case true => exact dr_z4 p s k b w hp hs hk hb h1 h2 h3 h4 hk0 (by simpa using hb81) hG hM hV hK
    exact dr_z5 p s k b w hp hs hk hb h1 h2 h3 h4 hk0 hb80 hb78 hb66 hb82 hb81 hG hM hV hK
end Go.Proofs.YtgfgohlolnlcjaaDoor.movesDrops
