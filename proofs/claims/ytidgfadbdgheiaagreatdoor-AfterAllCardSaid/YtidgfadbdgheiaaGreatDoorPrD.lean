/-
 The document's own List of layer 13.
-/
import Derived.Test.YtidgfadbdgheiaaGreatDoorPrB
import Derived.Test.YtidgfadbdgheiaaGreatDoorAfPrA
import Derived.Maps.AppendAt
set_option maxRecDepth 100000
set_option maxHeartbeats 8000000
namespace Go.Proofs.YtidgfadbdgheiaaGreatDoor
open Go.RowKit Go.Shelf
set_option linter.unusedVariables false
set_option linter.unusedSimpArgs false
attribute [local go_sem] Oper.semAt_some

def lm (l : List Pm) : List Mv := l.map pmM
theorem lm_app (l k : List Pm) : lm (l ++ k) = lm l ++ lm k := List.map_append
theorem lm_len (l : List Pm) : (lm l).length = l.length := List.length_map ..
theorem to_len (p : Nat → Int) (a n : Nat) (hn : n ≤ 64) : (toL p a n).length ≤ 4096 := by
 have h1 := fm_len (f := fun b => bif maB p a b then mvO p (a : Int) b else []) (n := 64) (l := List.range n) fun b _ => by
  cases maB p a b
  ·exact Nat.zero_le _
  ·show (mvO p (a : Int) b).length ≤ 64; unfold mvO; rw [List.length_map]; exact bec_len p _ b
 have h2 : (List.range n).length = n := List.length_range
 unfold toL; rw [h2] at h1; omega
theorem fr_len (p : Nat → Int) (n : Nat) (hn : n ≤ 64) : (frL p n).length ≤ 262144 := by
 have h1 := fm_len (f := fun a => toL p a 64) (n := 4096) (l := List.range n) fun a _ => to_len p a 64 (Nat.le_refl _)
 have h2 : (List.range n).length = n := List.length_range
 unfold frL; rw [h2] at h1; omega
theorem may_thK {p : Nat → Int} {x : Bool} (h : (decide (p 0 < 9) && decide (p 78 < 2)) = x) (w : World) : Calls Tryz.prog 49 #[.agg (posA p)] w (BoL x w) := h ▸ pr_there p w
theorem maK {p : Nat → Int} {a b : Nat} {x : Bool} (h : maB p a b = x) (ha : a < 64) (hb : b < 64) (w : World) (hp : BdR p) (h83 : -128 ≤ p 83 ∧ p 83 ≤ 127) : Calls Tryz.prog 50 #[.agg (posA p), .int .i64 (a : Int), .int .i64 (b : Int)] w (BoL x w) := h ▸ pr_may p a b ha hb w hp h83
theorem row_keptD {w w' : World} {X : Nat → Prop} {b : Nat} {p : Nat → Int} (h : Row w b p) (k : Kept X w w') (hx : ¬ X b) : Row w' b p := k.obj (show w.heap[b]? = _ from h) hx
theorem wrap_i8d {n : Int} (h : -128 ≤ n ∧ n ≤ 127) : IntKind.i8.wrap n = n := by
 exact IntWalk.i8_in n h
theorem promK {p : Nat → Int} (hp : 0 ≤ p 0 ∧ p 0 ≤ 255) (w : World) : Calls Tryz.prog 52 #[.int .u8 (p 0)] w (ListK .u8 5 (prL (p 0).toNat) w) := by
 have e : p 0 = ((p 0).toNat : Int) := by omega
 have h := rprom_any (p 0).toNat w
 rw [← e] at h
 exact h
theorem prl_le7 {v k : Nat} (h : k ∈ prL v) : k ≤ 7 := by
 unfold prL upN at h
 obtain ⟨i, hi, rfl⟩ := List.mem_map.1 h
 have := List.mem_range.1 hi
 have := hi_cases v
 omega
theorem MvsO.ltD {B : Nat} {L : List Mv} {v : Value} {w : World} (h : MvsO B L v w) {k : Nat} (hk : v.ownBlock = some k) : k < w.heap.size := by
 rcases h.2 with ⟨rfl, _⟩ | ⟨g, cap, cur, rfl, _, hg, _⟩
 ·cases hk
 ·simp [Value.ownBlock] at hk; subst hk; exact (Array.getElem?_eq_some_iff.1 hg).1
def AllM (p : Nat → Int) (w : World) (e : Ending) (w' : World) : Prop := ∃ v, e = .returned v ∧ MvsO w.heap.size (lm (allL p)) v w' ∧ Below w.heap.size w w'
theorem rlist_pr (p : Nat → Int) (w : World) (hp : PsR p) : Calls Tryz.prog 20 #[.agg (posA p)] w (AllM p w) := by
 have HP := H_ hp
 have HB := H_ (Below.refl w.heap.size w)
 cases gth : (decide (p 0 < 9) && decide (p 78 < 2))
 ·have HTh := H_ gth
  have HAll := H_ (show allL p = [] from all_none hp (fun h => by rw [decide_eq_true h.1, decide_eq_true h.2] at gth; cases gth))
  clear hp gth
  go_enter Tryz.func20, Tryz.ntmps20
  go_wp2_with (first
   | (guard_target = gB 1; refine step_box rfl _ rfl p rfl ?_; intro b1 w1 N R; have HG1 := H_ (nA HB.out N); have HB := H_ (below_on HB.out N.below); have HR1 := H_ R; clear N R)
   | (guard_target = gL 1; refine step_load rfl _ rfl b1 rfl p HR1.out ?_)
   | (go_at_call 49; refine (may_thK HTh.out _).mono ?_; rintro e w3 ⟨rfl, hb⟩; have HR1 := H_ (HR1.out.later hb); have HB := H_ (below_on HB.out hb); clear hb))
  exact bodyPost_ret (results_tmp rfl _ _ _) rfl ⟨_, rfl, by rw [HAll.out]; exact World.ownsRow_nil _ _ _ _, HB.out⟩
 ·have HTh := H_ gth
  have hth : p 0 < 9 ∧ p 78 < 2 := by rw [Bool.and_eq_true, decide_eq_true_eq, decide_eq_true_eq] at gth; exact gth
  have HAll := H_ (show allL p = frL p 64 from all_fr hp hth.1 hth.2)
  have HBe := H_ (fun (a b : Nat) (ha : a < 64) (hb : b < 64) => bec_ref hp.turn.1 hth.2 ha hb)
  clear hp gth hth
  obtain ⟨i0, hi, hz0, hz1, hz2⟩ : ∃ i, Tryz.prog.info? 40 = some i ∧ i.zero = some (.agg (mvA mv0)) ∧ i.size = 5 ∧ i.bytes = 5 := by
   cases h : Tryz.prog.info? 40 with
   | none => have := infoMv; rw [h] at this; cases this
   | some i => have := infoMv; rw [h] at this; simp at this; exact ⟨i, rfl, this.1, this.2.1, this.2.2⟩
  go_enter Tryz.func20, Tryz.ntmps20
  go_wp2_with (first
   | (guard_target = gB 1; refine step_box rfl _ rfl p rfl ?_; intro b1 w1 N R; have HG1 := H_ (nA HB.out N); have HB := H_ (below_on HB.out N.below); have HR1 := H_ R; clear N R)
   | (guard_target = gL 1; refine step_load rfl _ rfl b1 rfl p HR1.out ?_)
   | (go_at_call 49; refine (may_thK HTh.out _).mono ?_; rintro e w3 ⟨rfl, hb⟩; have HR1 := H_ (HR1.out.later hb); have HB := H_ (below_on HB.out hb); clear hb))
  obtain ⟨B1, hB1⟩ : ∃ B1, B1 = w3.heap.size := ⟨_, rfl⟩
  have HLt := H_ (show b1 < B1 by rw [hB1]; exact HR1.out.lt)
  have HLw := H_ (show w.heap.size ≤ B1 by rw [hB1]; exact HB.out.size)
  go_loopw [3, 4] (fun v i wr => ∃ a : Nat, a ≤ 64 ∧ i = .int .i64 (a : Int) ∧ MvsO B1 (lm (frL p a)) v wr ∧ Row wr b1 p ∧ Below w.heap.size w wr ∧ B1 ≤ wr.heap.size) (fun _ i _ => 64 - (intOf i).toNat)
  case atStart => exact ⟨0, by omega, rfl, World.ownsRow_nil _ _ _ _, HR1.out, HB.out, by rw [hB1]; exact Nat.le_refl _⟩
  case round =>
   clear HR1 HB hB1
   obtain ⟨a, ha, rfl, hv, hr1, hb, hs⟩ := hrel
   have HV := H_ hv
   have HR1 := H_ hr1
   have HB := H_ hb
   have HS := H_ hs
   clear hv hr1 hb hs
   by_cases ha2 : a < 64
   ·have HA64 := H_ ha2
    have ga : decide (a < 64) = true := decide_eq_true ha2
    have ga2 : decide ((a : Int) < 64) = true := decide_eq_true (by omega)
    obtain ⟨kd, hkd⟩ : ∃ kd, kndZ (p (1 + a)) = kd := ⟨_, rfl⟩
    have HKd := H_ hkd
    have HFl := H_ (fr_len p a (by omega))
    have HFn := H_ (fr_next p a)
    clear hkd
    go_wp2_with fail
    go_loopw [3, 5] (fun v i wr => ∃ b : Nat, b ≤ 64 ∧ i = .int .i64 (b : Int) ∧ MvsO B1 (lm (frL p a ++ toL p a b)) v wr ∧ Row wr b1 p ∧ Below w.heap.size w wr ∧ B1 ≤ wr.heap.size) (fun _ i _ => 64 - (intOf i).toNat)
    case atStart => exact ⟨0, by omega, rfl, by rw [show toL p a 0 = [] from rfl, List.append_nil]; exact HV.out, HR1.out, HB.out, HS.out⟩
    case round =>
     clear HV HR1 HB HS
     obtain ⟨b, hb0, rfl, hv, hr1, hb, hs⟩ := hrel
     have HV := H_ hv
     have HR1 := H_ hr1
     have HB := H_ hb
     have HS := H_ hs
     clear hv hr1 hb hs
     by_cases hb2 : b < 64
     ·have HB64 := H_ hb2
      have gb : decide (b < 64) = true := decide_eq_true hb2
      have gb2 : decide ((b : Int) < 64) = true := decide_eq_true (by omega)
      have HTl := H_ (to_len p a b (by omega))
      have HTn := H_ (to_next p a b)
      have HLn := H_ (show (lm (frL p a ++ toL p a b)).length ≤ 300000 by rw [lm_len, List.length_append]; have h1 := HFl.out; have h2 := HTl.out; omega)
      cases gm : maB p a b
      ·have HMa := H_ gm
       have HTs := H_ (show toL p a (b + 1) = toL p a b by rw [HTn.out, gm]; simp)
       clear gm
       go_wp2_with (first
        | (guard_target = gL 1; refine step_load rfl _ rfl b1 rfl p HR1.out ?_)
        | (go_at_call 50; refine (maK HMa.out HA64.out HB64.out _ HP.out.bd HP.out.pass).mono ?_; rintro e w3 ⟨rfl, hb⟩; have HR1 := H_ (HR1.out.later hb); have HV := H_ (HV.out.later hb); have HS := H_ (Nat.le_trans HS.out hb.size); have HB := H_ (below_on HB.out hb); clear hb))
       go_roundw
       case rel => exact ⟨b + 1, by have := HB64.out; omega, by go_num, by rw [HTs.out]; exact HV.out, HR1.out, HB.out, HS.out⟩
       case measure => simp [intOf]; have := HB64.out; omega
      ·have HMa := H_ gm
       have HTs := H_ (show toL p a (b + 1) = toL p a b ++ mvO p (a : Int) b by rw [HTn.out, gm]; rfl)
       have hbe := HBe.out a b ha2 hb2
       rw [HKd.out] at hbe
       obtain ⟨rk, hrk⟩ : ∃ rk, rnkC (p 78) b = rk := ⟨_, rfl⟩
       rw [hrk] at hbe
       have HRk := H_ hrk
       have hw1 : IntKind.i8.wrap (a : Int) = (a : Int) := wrap_i8d (by omega)
       have hw2 : IntKind.i8.wrap (b : Int) = (b : Int) := wrap_i8d (by omega)
       clear gm hrk
       obtain ⟨sg, hsg⟩ : ∃ sg, ((kd == 1) && (rk == 7)) = sg := ⟨_, rfl⟩
       cases sg
       ·have HTt := H_ (show lm (frL p a ++ toL p a (b + 1)) = lm (frL p a ++ toL p a b) ++ [⟨(a : Int), (b : Int), 0, 0, false⟩] by
         rw [HTs.out, ← List.append_assoc, lm_app]; congr 1; unfold mvO; rw [hbe, hsg]; rfl)
        clear hbe
        cases g1 : (kd == 1)
        ·have g1' : (kd != 1) = true := by rw [bne, g1]; rfl
         clear hsg g1
         go_wp2_with (first
          | (guard_target = gL 1; refine step_load rfl _ rfl b1 rfl p HR1.out ?_)
          | (go_at_call 50; refine (maK HMa.out HA64.out HB64.out _ HP.out.bd HP.out.pass).mono ?_; rintro e w3 ⟨rfl, hb⟩; have HR1 := H_ (HR1.out.later hb); have HV := H_ (HV.out.later hb); have HS := H_ (Nat.le_trans HS.out hb.size); have HB := H_ (below_on HB.out hb); clear hb)
          | (guard_target = gD 30; refine step_build (op := ⟨some 30, .build _ _, _, _, _, _⟩) rfl 40 _ rfl (mvA ⟨(a : Int), (b : Int), 0, 0, false⟩) (by kernel_rfl) ?_)
          | (guard_target = gA 6; refine blk_alloc rfl 40 rfl (mvA mv0) zeroMv ?_; intro b6 wn N R; have HG6 := H_ (nA HB.out N); have HY6 := H_ (show b1 ≠ b6 from Nat.ne_of_lt (by have h1 := HR1.out.lt; have := N.at_; omega)); have HX6 := H_ (show u3.ownBlock ≠ some b6 from fun e => by have h1 := HV.out.ltD e; have := N.at_; omega); have HR1 := H_ (HR1.out.later N.below); have HV := H_ (HV.out.later N.below); have HS := H_ (Nat.le_trans HS.out N.below.size); have HR6 := H_ R; have HB := H_ (below_on HB.out N.below); clear N R)
          | (guard_target = gS 6; refine blk_store rfl 40 _ _ rfl b6 rfl (mvA mv0) (mvA ⟨(a : Int), (b : Int), 0, 0, false⟩) rfl HR6.out rfl (mv_one _) sizeMv ?_; intro wn U R; have HR1 := H_ (HR1.out.apart U HY6.out); have HV := H_ (HV.out.keep fun g hg => U.block g (fun e => HX6.out (e ▸ hg))); have HS := H_ (show B1 ≤ wn.heap.size by rw [U.size]; exact HS.out); have HR6 := H_ R; have HB := H_ (HB.out.trans (U.below HG6.out)); clear U R)
          | (guard_target = gL2 34 33; refine step_get rfl 5 _ rfl b1 (1 + a) rfl Tryz.underlying5 rfl (.int .u8 (p (1 + a))) ?_ ?_; exact (HR1.out.cell (1 + a) (by have := HA64.out; omega)).trans (by rw [kAt_board (Nat.zero_le _) HA64.out]))
          | (go_at_call 28; refine (rkind_any _ _ (HP.out.bd a HA64.out).1 (HP.out.bd a HA64.out).2).mono ?_; rintro e w3 ⟨rfl, rfl⟩; rw [HKd.out])
          | (guard_target = gL 6; refine blk_load rfl 40 _ rfl b6 rfl (mvA ⟨(a : Int), (b : Int), 0, 0, false⟩) HR6.out _ Tryz.underlying40 rfl sizeMv ?_; show wpList _ _ _ _ (Act.put _ _ (Value.agg #[.int .i8 (a : Int), .int .i8 (b : Int), .int .u8 (0), .int .u8 0, .bool false])) _)
          | (at_builtin; refine wpList_append_own_at _ rfl _ _ 33 rfl B1 40 i0 (.agg (mvA mv0)) 5 5 Tryz.underlying33 hi hz0 hz1 hz2 rfl (by decide) _ _ _ rfl (World.ownsRow.alloc HV.out _) ⟨_, 0, none⟩ 1 1 (mvA ⟨(a : Int), (b : Int), 0, 0, false⟩).toList rfl rfl ?c1 ?c2 ?c3 ?c4 ?c5 ?_))
         case c1 => exact mcells_new _ (mvA ⟨(a : Int), (b : Int), 0, 0, false⟩) _
         case c2 => simp [mvA, Value.oneCell']
         case c3 => unfold maxLen; have := HLn.out; omega
         case c4 => have := HLn.out; omega
         case c5 => have := HS.out; simp; omega
         intro v' w2 hown' hgrow _ hat
         have HVn := H_ (HV.out.grow hown')
         have hkp := (Kept.of_call (fun k => u3.ownBlock = some k) (box_below _ _)).trans (mkept_grown hgrow)
         have HR1n := H_ (row_keptD HR1.out hkp (fun e => by have h1 := HV.out.from e; have := HLt.out; omega))
         have HBn := H_ (HB.out.trans (hkp.below (fun i hi => by have h1 := HV.out.from hi; have := HLw.out; omega) HB.out.size))
         have HSn := H_ (Nat.le_trans HS.out hkp.size)
         clear hkp hown' hgrow hat
         go_wp2_with fail
         go_roundw
         case rel => exact ⟨b + 1, by have := HB64.out; omega, by go_num, by rw [HTt.out]; exact HVn.out, HR1n.out, HBn.out, HSn.out⟩
         case measure => simp [intOf]; have := HB64.out; omega
        ·have g2 : (rk == 7) = false := by rw [g1] at hsg; exact hsg
         have g1' : (kd != 1) = false := by rw [bne, g1]; rfl
         have g2' : (rk != 7) = true := by rw [bne, g2]; rfl
         clear hsg g1 g2
         go_wp2_with (first
          | (guard_target = gL 1; refine step_load rfl _ rfl b1 rfl p HR1.out ?_)
          | (go_at_call 50; refine (maK HMa.out HA64.out HB64.out _ HP.out.bd HP.out.pass).mono ?_; rintro e w3 ⟨rfl, hb⟩; have HR1 := H_ (HR1.out.later hb); have HV := H_ (HV.out.later hb); have HS := H_ (Nat.le_trans HS.out hb.size); have HB := H_ (below_on HB.out hb); clear hb)
          | (guard_target = gD 30; refine step_build (op := ⟨some 30, .build _ _, _, _, _, _⟩) rfl 40 _ rfl (mvA ⟨(a : Int), (b : Int), 0, 0, false⟩) (by kernel_rfl) ?_)
          | (guard_target = gA 6; refine blk_alloc rfl 40 rfl (mvA mv0) zeroMv ?_; intro b6 wn N R; have HG6 := H_ (nA HB.out N); have HY6 := H_ (show b1 ≠ b6 from Nat.ne_of_lt (by have h1 := HR1.out.lt; have := N.at_; omega)); have HX6 := H_ (show u3.ownBlock ≠ some b6 from fun e => by have h1 := HV.out.ltD e; have := N.at_; omega); have HR1 := H_ (HR1.out.later N.below); have HV := H_ (HV.out.later N.below); have HS := H_ (Nat.le_trans HS.out N.below.size); have HR6 := H_ R; have HB := H_ (below_on HB.out N.below); clear N R)
          | (guard_target = gS 6; refine blk_store rfl 40 _ _ rfl b6 rfl (mvA mv0) (mvA ⟨(a : Int), (b : Int), 0, 0, false⟩) rfl HR6.out rfl (mv_one _) sizeMv ?_; intro wn U R; have HR1 := H_ (HR1.out.apart U HY6.out); have HV := H_ (HV.out.keep fun g hg => U.block g (fun e => HX6.out (e ▸ hg))); have HS := H_ (show B1 ≤ wn.heap.size by rw [U.size]; exact HS.out); have HR6 := H_ R; have HB := H_ (HB.out.trans (U.below HG6.out)); clear U R)
          | (guard_target = gL2 34 33; refine step_get rfl 5 _ rfl b1 (1 + a) rfl Tryz.underlying5 rfl (.int .u8 (p (1 + a))) ?_ ?_; exact (HR1.out.cell (1 + a) (by have := HA64.out; omega)).trans (by rw [kAt_board (Nat.zero_le _) HA64.out]))
          | (go_at_call 28; refine (rkind_any _ _ (HP.out.bd a HA64.out).1 (HP.out.bd a HA64.out).2).mono ?_; rintro e w3 ⟨rfl, rfl⟩; rw [HKd.out])
          | (guard_target = gL2 39 38; refine gU rfl 5 _ rfl Tryz.underlying5 HR1.out 78 (by decide) rfl rfl ?_)
          | (go_at_call 51; refine (rkK HRk.out HB64.out _).mono ?_; rintro e w3 ⟨rfl, rfl⟩)
          | (guard_target = gL 6; refine blk_load rfl 40 _ rfl b6 rfl (mvA ⟨(a : Int), (b : Int), 0, 0, false⟩) HR6.out _ Tryz.underlying40 rfl sizeMv ?_; show wpList _ _ _ _ (Act.put _ _ (Value.agg #[.int .i8 (a : Int), .int .i8 (b : Int), .int .u8 (0), .int .u8 0, .bool false])) _)
          | (at_builtin; refine wpList_append_own_at _ rfl _ _ 33 rfl B1 40 i0 (.agg (mvA mv0)) 5 5 Tryz.underlying33 hi hz0 hz1 hz2 rfl (by decide) _ _ _ rfl (World.ownsRow.alloc HV.out _) ⟨_, 0, none⟩ 1 1 (mvA ⟨(a : Int), (b : Int), 0, 0, false⟩).toList rfl rfl ?c1 ?c2 ?c3 ?c4 ?c5 ?_))
         case c1 => exact mcells_new _ (mvA ⟨(a : Int), (b : Int), 0, 0, false⟩) _
         case c2 => simp [mvA, Value.oneCell']
         case c3 => unfold maxLen; have := HLn.out; omega
         case c4 => have := HLn.out; omega
         case c5 => have := HS.out; simp; omega
         intro v' w2 hown' hgrow _ hat
         have HVn := H_ (HV.out.grow hown')
         have hkp := (Kept.of_call (fun k => u3.ownBlock = some k) (box_below _ _)).trans (mkept_grown hgrow)
         have HR1n := H_ (row_keptD HR1.out hkp (fun e => by have h1 := HV.out.from e; have := HLt.out; omega))
         have HBn := H_ (HB.out.trans (hkp.below (fun i hi => by have h1 := HV.out.from hi; have := HLw.out; omega) HB.out.size))
         have HSn := H_ (Nat.le_trans HS.out hkp.size)
         clear hkp hown' hgrow hat
         go_wp2_with fail
         go_roundw
         case rel => exact ⟨b + 1, by have := HB64.out; omega, by go_num, by rw [HTt.out]; exact HVn.out, HR1n.out, HBn.out, HSn.out⟩
         case measure => simp [intOf]; have := HB64.out; omega
       ·have g1 : (kd == 1) = true := by rw [Bool.and_eq_true] at hsg; exact hsg.1
        have g2 : (rk == 7) = true := by rw [Bool.and_eq_true] at hsg; exact hsg.2
        have g1' : (kd != 1) = false := by rw [bne, g1]; rfl
        have g2' : (rk != 7) = false := by rw [bne, g2]; rfl
        obtain ⟨PL, hPL⟩ : ∃ PL, prL (p 0).toNat = PL := ⟨_, rfl⟩
        have HPl := H_ (show ∀ k ∈ PL, k ≤ 7 by rw [← hPL]; exact fun k hk => prl_le7 hk)
        have HMv := H_ (show mvO p (a : Int) b = PL.map fun k => ⟨(a : Int), b, k⟩ by unfold mvO; rw [hbe, hsg, cond_true, hPL])
        have HPn := H_ (show PL.length ≤ 64 by have := bec_len p (a : Int) b; rw [hbe, hsg, cond_true, hPL] at this; exact this)
        have HPL := H_ hPL
        clear hbe hsg g1 g2 hPL
        go_wp2_with (first
         | (guard_target = gL 1; refine step_load rfl _ rfl b1 rfl p HR1.out ?_)
         | (go_at_call 50; refine (maK HMa.out HA64.out HB64.out _ HP.out.bd HP.out.pass).mono ?_; rintro e w3 ⟨rfl, hb⟩; have HR1 := H_ (HR1.out.later hb); have HV := H_ (HV.out.later hb); have HS := H_ (Nat.le_trans HS.out hb.size); have HB := H_ (below_on HB.out hb); clear hb)
         | (guard_target = gD 30; refine step_build (op := ⟨some 30, .build _ _, _, _, _, _⟩) rfl 40 _ rfl (mvA ⟨(a : Int), (b : Int), 0, 0, false⟩) (by kernel_rfl) ?_)
         | (guard_target = gA 6; refine blk_alloc rfl 40 rfl (mvA mv0) zeroMv ?_; intro b6 wn N R; have HG6 := H_ (nA HB.out N); have HY6 := H_ (show b1 ≠ b6 from Nat.ne_of_lt (by have h1 := HR1.out.lt; have := N.at_; omega)); have HX6 := H_ (show u3.ownBlock ≠ some b6 from fun e => by have h1 := HV.out.ltD e; have := N.at_; omega); have HR1 := H_ (HR1.out.later N.below); have HV := H_ (HV.out.later N.below); have HS := H_ (Nat.le_trans HS.out N.below.size); have HR6 := H_ R; have HB := H_ (below_on HB.out N.below); clear N R)
         | (guard_target = gS 6; refine blk_store rfl 40 _ _ rfl b6 rfl (mvA mv0) (mvA ⟨(a : Int), (b : Int), 0, 0, false⟩) rfl HR6.out rfl (mv_one _) sizeMv ?_; intro wn U R; have HR1 := H_ (HR1.out.apart U HY6.out); have HV := H_ (HV.out.keep fun g hg => U.block g (fun e => HX6.out (e ▸ hg))); have HS := H_ (show B1 ≤ wn.heap.size by rw [U.size]; exact HS.out); have HR6 := H_ R; have HB := H_ (HB.out.trans (U.below HG6.out)); clear U R)
         | (guard_target = gL2 34 33; refine step_get rfl 5 _ rfl b1 (1 + a) rfl Tryz.underlying5 rfl (.int .u8 (p (1 + a))) ?_ ?_; exact (HR1.out.cell (1 + a) (by have := HA64.out; omega)).trans (by rw [kAt_board (Nat.zero_le _) HA64.out]))
         | (go_at_call 28; refine (rkind_any _ _ (HP.out.bd a HA64.out).1 (HP.out.bd a HA64.out).2).mono ?_; rintro e w3 ⟨rfl, rfl⟩; rw [HKd.out])
         | (guard_target = gL2 39 38; refine gU rfl 5 _ rfl Tryz.underlying5 HR1.out 78 (by decide) rfl rfl ?_)
         | (go_at_call 51; refine (rkK HRk.out HB64.out _).mono ?_; rintro e w3 ⟨rfl, rfl⟩)
         | (guard_target = gL2 49 48; refine gU rfl 5 _ rfl Tryz.underlying5 HR1.out 0 (by decide) rfl rfl ?_)
         | (go_at_call 52; (refine (promK HP.out.var _).mono ?_; rintro e w7 ⟨v7, rfl, hv7, hb⟩; have HQ7 := H_ hv7; have HN7 := H_ (show b1 < wn.heap.size ∧ b6 < wn.heap.size ∧ ∀ k, u3.ownBlock = some k → k < wn.heap.size from ⟨HR1.out.lt, Blk.lt HR6.out, fun k e => HV.out.ltD e⟩); have HR6 := H_ (HR6.out.later hb); have HR1 := H_ (HR1.out.later hb); have HV := H_ (HV.out.later hb); have HS := H_ (Nat.le_trans HS.out hb.size); have HB := H_ (below_on HB.out hb); clear hb; clear hv7)))
        have hq7 := HQ7.out
        rw [HPL.out] at hq7
        have hn7 := HN7.out
        obtain ⟨B7, hB7⟩ : ∃ B7, B7 = wn.heap.size := ⟨_, rfl⟩
        rw [← hB7] at hq7 hn7
        by_cases hne : 0 < PL.length
        ·obtain ⟨g7, cap7, cur7, hLi⟩ := listedK_open hq7 hne
         obtain rfl : v7 = _ := hLi.val
         have HLi := H_ hLi
         have HN7a := H_ (show b1 < g7 ∧ b6 < g7 ∧ ∀ k, u3.ownBlock = some k → k ≠ g7 from ⟨by have := hn7.1; have := hLi.base; omega, by have := hn7.2.1; have := hLi.base; omega, fun k e => by have := hn7.2.2 k e; have := hLi.base; omega⟩)
         have HG76 := H_ (show g7 ≠ b6 by have := HN7a.out.2.1; omega)
         clear hLi hq7 HQ7 HN7 hn7 hB7
         go_wp2_with fail
         go_loopw [3, 8] (fun v i wr => ∃ (j : Nat) (x : Int), j ≤ PL.length ∧ i = .int .i64 (j : Int) ∧ MvsO B1 (lm (frL p a ++ toL p a b) ++ lm ((PL.take j).map fun k => ⟨(a : Int), b, k⟩)) v wr ∧ (∀ k, v.ownBlock = some k → k ≠ g7 ∧ k ≠ b6 ∧ k ≠ b1) ∧ Blk wr b6 40 (mvA ⟨(a : Int), (b : Int), x, 0, false⟩) ∧ Lies .u8 5 B7 PL (.slice (some ⟨g7, 0, none⟩) PL.length cap7) g7 cap7 cur7 wr ∧ Row wr b1 p ∧ Below w.heap.size w wr ∧ B1 ≤ wr.heap.size) (fun _ i _ => PL.length - (intOf i).toNat)
         case atStart => exact ⟨0, 0, by omega, rfl, by rw [List.take_zero]; show MvsO B1 (lm (frL p a ++ toL p a b) ++ []) _ _; rw [List.append_nil]; exact HV.out, fun k e => ⟨HN7a.out.2.2 k e, fun e2 => HX6.out (e2 ▸ e), fun e2 => by have h1 := HV.out.from e; have := HLt.out; omega⟩, HR6.out, HLi.out, HR1.out, HB.out, HS.out⟩
         case round =>
          clear HV HR6 HLi HR1 HB HS
          obtain ⟨j, x, hj, rfl, hv, how, hr6, hli, hr1, hb, hs⟩ := hrel
          have HV := H_ hv
          have HOw := H_ how
          have HR6 := H_ hr6
          have HLi := H_ hli
          have HR1 := H_ hr1
          have HB := H_ hb
          have HS := H_ hs
          clear hv how hr6 hli hr1 hb hs
          by_cases hjl : j < PL.length
          ·have HJl := H_ hjl
           have hj64 : j < 64 := by have := HPn.out; omega
           obtain ⟨kj, hkj⟩ : ∃ kj, PL[j] = kj := ⟨_, rfl⟩
           have HKj := H_ hkj
           have hk7 : kj ≤ 7 := HPl.out kj (by rw [← hkj]; exact List.getElem_mem _)
           obtain ⟨LA, hLA⟩ : ∃ LA, lm (frL p a ++ toL p a b) ++ lm ((PL.take j).map fun k => ⟨(a : Int), b, k⟩) = LA := ⟨_, rfl⟩
           have HTk := H_ (show lm (frL p a ++ toL p a b) ++ lm ((PL.take (j + 1)).map fun k => ⟨(a : Int), b, k⟩) = LA ++ [⟨(a : Int), (b : Int), ((kj : Nat) : Int), 0, false⟩] by
            rw [← hLA, List.append_assoc]; congr 1; rw [List.take_add_one, List.getElem?_eq_some_iff.2 ⟨hjl, hkj⟩, List.map_append, lm_app]; rfl)
           have HLn := H_ (show LA.length ≤ 400000 by rw [← hLA, List.length_append, lm_len, lm_len, List.length_map, List.length_take]; have h1 := HLn.out; rw [lm_len] at h1; have := HPn.out; omega)
           have HV := H_ (show MvsO B1 LA u3 wr by rw [← hLA]; exact HV.out)
           clear hkj hLA
           go_wp2_with (first
            | (guard_target = gL2 60 59; refine step_get rfl 5 _ rfl g7 j rfl Tryz.underlying5 rfl (.int .u8 ((kj : Nat) : Int)) ?_ ?_; exact (HLi.out.cell j HJl.out).trans (congrArg (fun n : Nat => some (Value.int .u8 (n : Int))) HKj.out))
            | (guard_target = gS 61; refine blk_cell (op := ⟨none, .store _ (.tmp 61) _, _, _, _, _⟩) rfl 5 _ _ rfl b6 2 rfl .u8 ((kj : Nat) : Int) rfl 40 (mvA ⟨(a : Int), (b : Int), x, 0, false⟩) HR6.out (by show 2 < 5; decide) size5 ?_; intro wn U R; have HR1 := H_ (HR1.out.apart U HY6.out); have HV := H_ (HV.out.keep fun g hg => U.block g (fun e => (HOw.out g hg).2.1 e)); have HS := H_ (show B1 ≤ wn.heap.size by rw [U.size]; exact HS.out); have HLi := H_ (HLi.out.apart U HG76.out); have HR6 := H_ (show Blk wn b6 40 (mvA ⟨(a : Int), (b : Int), ((kj : Nat) : Int), 0, false⟩) from R); have HB := H_ (HB.out.trans (U.below HG6.out)); clear U R)
            | (guard_target = gL 6; refine blk_load rfl 40 _ rfl b6 rfl (mvA ⟨(a : Int), (b : Int), ((kj : Nat) : Int), 0, false⟩) HR6.out _ Tryz.underlying40 rfl sizeMv ?_; show wpList _ _ _ _ (Act.put _ _ (Value.agg #[.int .i8 (a : Int), .int .i8 (b : Int), .int .u8 (((kj : Nat) : Int)), .int .u8 0, .bool false])) _)
            | (at_builtin; refine wpList_append_own_at _ rfl _ _ 33 rfl B1 40 i0 (.agg (mvA mv0)) 5 5 Tryz.underlying33 hi hz0 hz1 hz2 rfl (by decide) _ _ _ rfl (World.ownsRow.alloc HV.out _) ⟨_, 0, none⟩ 1 1 (mvA ⟨(a : Int), (b : Int), ((kj : Nat) : Int), 0, false⟩).toList rfl rfl ?c1 ?c2 ?c3 ?c4 ?c5 ?_))
           case c1 => exact mcells_new _ (mvA ⟨(a : Int), (b : Int), ((kj : Nat) : Int), 0, false⟩) _
           case c2 => simp [mvA, Value.oneCell']
           case c3 => unfold maxLen; have := HLn.out; omega
           case c4 => have := HLn.out; omega
           case c5 => have := HS.out; simp; omega
           intro v' w2 hown' hgrow _ hat
           have HVn := H_ (HV.out.grow hown')
           have hkp := (Kept.of_call (fun k => u3.ownBlock = some k) (box_below _ _)).trans (mkept_grown hgrow)
           have HR1n := H_ (row_keptD HR1.out hkp (fun e => by have h1 := HV.out.from e; have := HLt.out; omega))
           have HBn := H_ (HB.out.trans (hkp.below (fun i hi => by have h1 := HV.out.from hi; have := HLw.out; omega) HB.out.size))
           have HSn := H_ (Nat.le_trans HS.out hkp.size)
           have HOwn := H_ (show ∀ k, v'.ownBlock = some k → k ≠ g7 ∧ k ≠ b6 ∧ k ≠ b1 by
            intro k e
            rcases hat with e2 | e2
            ·exact HOw.out k (e2 ▸ e)
            ·rw [e2] at e
             injection e with e
             have h1 := Blk.lt HR6.out
             have h2 := Blk.lt HLi.out.blk
             have h3 := HR1.out.lt
             try simp at e
             omega)
           have HR6n := H_ (show Blk w2 b6 40 (mvA ⟨(a : Int), (b : Int), ((kj : Nat) : Int), 0, false⟩) from hkp.obj (show wn.heap[b6]? = _ from HR6.out) (fun e => (HOw.out _ e).2.1 rfl))
           have HLin := H_ (show Lies .u8 5 B7 PL (.slice (some ⟨g7, 0, none⟩) PL.length cap7) g7 cap7 cur7 w2 from { HLi.out with blk := hkp.obj (show wn.heap[g7]? = _ from HLi.out.blk) (fun e => (HOw.out _ e).1 rfl) })
           clear hkp hown' hgrow hat
           go_wp2_with fail
           go_roundw
           case rel => exact ⟨j + 1, ((kj : Nat) : Int), by have := HJl.out; omega, by go_num, by rw [HTk.out]; exact HVn.out, HOwn.out, HR6n.out, HLin.out, HR1n.out, HBn.out, HSn.out⟩
           case measure => simp [intOf]; have := HJl.out; omega
          ·obtain rfl : j = PL.length := by omega
           have HTt := H_ (show lm (frL p a ++ toL p a (b + 1)) = lm (frL p a ++ toL p a b) ++ lm ((PL.take PL.length).map fun k => ⟨(a : Int), b, k⟩) by rw [HTs.out, HMv.out, List.take_length, ← List.append_assoc, lm_app])
           go_wp2_with fail
           go_roundw
           case rel => exact ⟨b + 1, by have := HB64.out; omega, by go_num, by rw [HTt.out]; exact HV.out, HR1.out, HB.out, HS.out⟩
           case measure => simp [intOf]; have := HB64.out; omega
        ·have hnil : PL = [] := List.eq_nil_of_length_eq_zero (by omega)
         have HTt := H_ (show lm (frL p a ++ toL p a (b + 1)) = lm (frL p a ++ toL p a b) by rw [HTs.out, HMv.out, hnil, List.map_nil, List.append_nil])
         rw [hnil] at hq7
         obtain ⟨q7, cap7, rfl⟩ := listedK_none hq7
         clear hq7 HQ7 HN7 hn7 hB7 hne hnil
         go_wp2_with fail
         go_loopw [3, 8] (fun v i wr => i = .int .i64 0 ∧ MvsO B1 (lm (frL p a ++ toL p a b)) v wr ∧ Row wr b1 p ∧ Below w.heap.size w wr ∧ B1 ≤ wr.heap.size) (fun _ _ _ => 0)
         case atStart => exact ⟨rfl, HV.out, HR1.out, HB.out, HS.out⟩
         case round =>
          clear HV HR6 HR1 HB HS
          obtain ⟨rfl, hv, hr1, hb, hs⟩ := hrel
          have HV := H_ hv
          have HR1 := H_ hr1
          have HB := H_ hb
          have HS := H_ hs
          clear hv hr1 hb hs
          go_wp2_with fail
          go_roundw
          case rel => exact ⟨b + 1, by have := HB64.out; omega, by go_num, by rw [HTt.out]; exact HV.out, HR1.out, HB.out, HS.out⟩
          case measure => simp [intOf]; have := HB64.out; omega
     ·obtain rfl : b = 64 := by omega
      have gb : decide ((64 : Int) < 64) = false := by decide
      go_wp2_with fail
      go_roundw
      case rel => exact ⟨a + 1, by have := HA64.out; omega, by go_num, by rw [HFn.out]; exact HV.out, HR1.out, HB.out, HS.out⟩
      case measure => simp [intOf]; have := HA64.out; omega
   ·obtain rfl : a = 64 := by omega
    go_wp2_with fail
    exact bodyPost_ret (results_tmp rfl _ _ _) rfl ⟨_, rfl, by rw [HAll.out]; exact World.ownsRow.mono HV.out HLw.out, HB.out⟩
end Go.Proofs.YtidgfadbdgheiaaGreatDoor
