/-
 The document's own Kind, Held, Men, List, Same, for layer 15.
-/
import Derived.Test.YtidgfadbdgheiaaGreatDoorAfDr
set_option maxRecDepth 100000
set_option maxHeartbeats 4000000
namespace Go.Proofs.YtidgfadbdgheiaaGreatDoor
open Go.RowKit Go.Shelf
set_option linter.unusedVariables false
set_option linter.unusedSimpArgs false
attribute [local go_sem] Oper.semAt_some

theorem ret_drI {k : IntKind} {a b : Int} (h : a = b) : Ending.returned (Value.int k a) = Ending.returned (Value.int k b) := by rw [h]
theorem rkind_dr (x : Int) (w : World) (h0 : 0 ≤ x) (h1 : x ≤ 255) : Calls Tryz.prog 28 #[.int .u8 x] w (fun e w' => e = .returned (.int .u8 (kndZ x)) ∧ w = w') := by
 by_cases e1 : 15 < x
 ·have HS := H_ (show kndZ x = 0 from kndZ_no (pcB_false.2 (by omega)))
  have g1 : decide (15 < x) = true := decide_eq_true e1
  clear e1
  go_enter Tryz.func28, Tryz.ntmps28
  go_wp2_with fail
  go_ret
  exact ⟨ret_drI HS.out.symm, rfl⟩
 ·have g1 : decide (15 < x) = false := decide_eq_false e1
  by_cases e2 : x % 8 < 1
  ·have HS := H_ (show kndZ x = 0 from kndZ_no (pcB_false.2 (by omega)))
   have g2 : decide (x % 8 < 1) = true := decide_eq_true e2
   clear e1 e2
   go_enter Tryz.func28, Tryz.ntmps28
   go_wp2_with fail
   go_ret
   exact ⟨ret_drI HS.out.symm, rfl⟩
  ·have g2 : decide (x % 8 < 1) = false := decide_eq_false e2
   by_cases e3 : 6 < x % 8
   ·have HS := H_ (show kndZ x = 0 from kndZ_no (pcB_false.2 (by omega)))
    have g3 : decide (6 < x % 8) = true := decide_eq_true e3
    clear e1 e2 e3
    go_enter Tryz.func28, Tryz.ntmps28
    go_wp2_with fail
    go_ret
    exact ⟨ret_drI HS.out.symm, rfl⟩
   ·have HS := H_ (show kndZ x = x % 8 from kndZ_yes (pcB_true.2 (by omega)))
    have g3 : decide (6 < x % 8) = false := decide_eq_false e3
    clear e1 e2 e3
    go_enter Tryz.func28, Tryz.ntmps28
    go_wp2_with fail
    go_ret
    exact ⟨ret_int (by rw [HS.out]), rfl⟩
theorem same_dr (L : List Mv) (a1 a2 : Option Addr) (c1 c2 : Nat) (w : World) (hn : L.length ≤ 1000000) (hv : ∀ (i : Nat) (m : Mv), L[i]? = some m → FitV m) (h1 : Mvs L a1 w) (h2 : Mvs L a2 w) : Calls Tryz.prog 6 #[.slice a1 L.length c1, .slice a2 L.length c2] w (BoL true w) := by
 have HV := H_ hv
 have HE1 := H_ h1
 have HE2 := H_ h2
 have HN := H_ hn
 clear hv h1 h2 hn
 have HB := H_ (Below.refl w.heap.size w)
 go_enter Tryz.func6, Tryz.ntmps6
 go_wp2_with fail
 go_loopw [5] (fun i wr => ∃ k : Nat, k ≤ L.length ∧ i = .int .i64 (k : Int) ∧ Mvs L a1 wr ∧ Mvs L a2 wr ∧ Below w.heap.size w wr) (fun i _ => L.length - (intOf i).toNat)
 case atStart => exact ⟨0, by omega, rfl, HE1.out, HE2.out, HB.out⟩
 case round =>
  clear HE1 HE2 HB
  obtain ⟨k, hk, rfl, he1, he2, hb⟩ := hrel
  have HE1 := H_ he1
  have HE2 := H_ he2
  have HB := H_ hb
  clear he1 he2 hb
  by_cases hlt : k < L.length
  ·obtain ⟨m, hm⟩ : ∃ m, L[k]? = some m := ⟨_, List.getElem?_eq_getElem hlt⟩
   obtain ⟨g1, rfl, _⟩ := HE1.out.at hm
   obtain ⟨g2, rfl, _⟩ := HE2.out.at hm
   have HX := H_ hm
   have HVm := H_ (HV.out k m hm)
   have hw1 : (k : Int) < 1000000 := by have := HN.out; omega
   clear hm
   go_wp2_with fail
   refine late_begin 9 (by kernel_rfl) ?_
   refine lw 0 rfl ?_
   simp only [Act.put, pa, pb, pc]
   refine lw 1 rfl ?_
   simp only [Act.put, pa, pb, pc]
   refine lv 2 rfl ⟨.pointer (some ⟨g1, k * 5, none⟩), fun w' hl => ?_, ?_⟩
   ·(go_simp <;> (intro hbad; omega))
   simp only [Act.put, pa, pb, pc]
   refine lv 3 rfl ⟨.agg (mvA m), fun w' hl => (run_mvK _ rfl g1 k _ rfl (by first | omega | (simp; omega)) m ((HE1.out.later hl).get HX.out)), ?_⟩
   simp only [Act.put, pa, pb, pc]
   refine lw 4 rfl ?_
   simp only [Act.put, pa, pb, pc]
   refine lw 5 rfl ?_
   simp only [Act.put, pa, pb, pc]
   refine lv 6 rfl ⟨.pointer (some ⟨g2, k * 5, none⟩), fun w' hl => ?_, ?_⟩
   ·(go_simp <;> (intro hbad; omega))
   simp only [Act.put, pa, pb, pc]
   refine lv 7 rfl ⟨.agg (mvA m), fun w' hl => (run_mvK _ rfl g2 k _ rfl (by first | omega | (simp; omega)) m ((HE2.out.later hl).get HX.out)), ?_⟩
   simp only [Act.put, pa, pb, pc]
   refine lv 8 rfl ⟨.bool false, fun w' hl => (run_mvN _ _ rfl m m rfl rfl HVm.out HVm.out true (mvE_true.2 rfl)), ?_⟩
   simp only [Act.put, pa, pb, pc]
   refine late_end (by kernel_rfl) (fun wn hl => ?_)
   have HE1 := H_ (HE1.out.later hl); have HE2 := H_ (HE2.out.later hl); have HB := H_ (below_on HB.out hl); clear hl
   go_wp2_with fail
   go_roundw
   case rel => exact ⟨k + 1, by omega, by go_num, HE1.out, HE2.out, HB.out⟩
   case measure => simp [intOf]; omega
  ·obtain rfl : k = L.length := by omega
   go_wp2_with fail
   go_ret
   exact ⟨rfl, HB.out⟩
theorem rlist_dr (p : Nat → Int) (w : World) (hp : DrR p) : Calls Tryz.prog 22 #[.agg (posA p)] w (DrM p w) := by
 have HP := H_ hp
 have HB := H_ (Below.refl w.heap.size w)
 have ht := hp.turn
 have hv := hp.var
 clear hp
 cases g1 : decide (1 < p 78)
 ·have g1' : ¬ 1 < p 78 := of_decide_eq_false g1
  cases g2 : (p 0 == 2)
  ·have g2' : (p 0 != 2) = true := by rw [bne, g2]; rfl
   have HL := H_ (drL_none (p := p) (Or.inr g2))
   go_enter Tryz.func22, Tryz.ntmps22
   go_wp2_with (first
    | (guard_target = gB 1; refine step_box rfl _ rfl p rfl ?_; intro b1 w1 N R; have HG1 := H_ (nA HB.out N); have HB := H_ (below_on HB.out N.below); have HR1 := H_ R; clear N R)
    | (guard_target = gL 6; refine gU rfl 5 _ rfl Tryz.underlying5 HR1.out 78 (by decide) rfl rfl ?_)
    | (guard_target = gL 10; refine gU rfl 5 _ rfl Tryz.underlying5 HR1.out 0 (by decide) rfl rfl ?_))
   exact bodyPost_ret (results_tmp rfl _ _ _) rfl ⟨_, rfl, by rw [HL.out]; exact World.ownsRow_nil _ _ _ _, HB.out⟩
  ·have g2' : (p 0 != 2) = false := by rw [bne, g2]; rfl
   have HL := H_ (show drL p = dropT p 6 by unfold drL; rw [g2]; rfl)
   clear g2
   obtain ⟨t, htu⟩ := Int.eq_ofNat_of_zero_le ht.1
   have htu : p 78 = (t : Int) := htu
   have ht1 : t ≤ 1 := by omega
   have HTu := H_ htu
   clear ht hv htu g1'
   obtain ⟨i0, hi, hz0, hz1, hz2⟩ : ∃ i, Tryz.prog.info? 40 = some i ∧ i.zero = some (.agg (mvA mv0)) ∧ i.size = 5 ∧ i.bytes = 5 := by
    cases h : Tryz.prog.info? 40 with
    | none => have := infoMv; rw [h] at this; cases this
    | some i => have := infoMv; rw [h] at this; simp at this; exact ⟨i, rfl, this.1, this.2.1, this.2.2⟩
   go_enter Tryz.func22, Tryz.ntmps22
   go_wp2_with (first
    | (guard_target = gB 1; refine step_box rfl _ rfl p rfl ?_; intro b1 w1 N R; have HG1 := H_ (nA HB.out N); have HB := H_ (below_on HB.out N.below); have HR1 := H_ R; clear N R)
    | (guard_target = gL 6; refine gU rfl 5 _ rfl Tryz.underlying5 HR1.out 78 (by decide) rfl rfl ?_)
    | (guard_target = gL 10; refine gU rfl 5 _ rfl Tryz.underlying5 HR1.out 0 (by decide) rfl rfl ?_))
   clear g1 g2'
   go_loopw [3, 4] (fun v i wr => ∃ k : Nat, 1 ≤ k ∧ k ≤ 6 ∧ i = .int .u8 (k : Int) ∧ MvsO (b1 + 1) (dropT p k) v wr ∧ Row wr b1 p ∧ Below w.heap.size w wr ∧ b1 + 1 ≤ wr.heap.size) (fun _ i _ => 6 - (intOf i).toNat)
   case atStart => exact ⟨1, by omega, by omega, rfl, by rw [drT_1]; exact World.ownsRow_nil _ _ _ _, HR1.out, HB.out, HR1.out.lt⟩
   case round =>
    clear HR1 HB
    obtain ⟨k, hk1, hk, rfl, hv, hr1, hb, hs⟩ := hrel
    have HV := H_ hv
    have HR1 := H_ hr1
    have HB := H_ hb
    have HS := H_ hs
    clear hv hr1 hb hs
    by_cases hlt : k < 6
    ·have gk : decide (k ≤ 5) = true := decide_eq_true (by omega)
     have gk2 : decide ((k : Int) ≤ 5) = true := decide_eq_true (by omega)
     have HK := H_ (show 66 + t * 6 + k < 78 by omega)
     have HK6 := H_ hlt
     have hk255 : (k : Int) < 6 := by omega
     have HDn := H_ (drT_next p k)
     have HDl := H_ (drT_len p k)
     have hv : helC p (p 78) (k : Int) = p (66 + t * 6 + k) := by rw [HTu.out, helC_yes (hasP_true.2 (by omega)), pkJ_at]
     have hxr := HP.out.pk (66 + t * 6 + k) (by omega) (by omega)
     obtain ⟨x, hx⟩ : ∃ x, p (66 + t * 6 + k) = x := ⟨_, rfl⟩
     have HX := H_ hx
     rw [hx] at hv hxr
     clear hx
     cases gx : decide (0 < x)
     ·have HTt := H_ (show dropT p (k + 1) = dropT p k by rw [HDn.out, drK_no (by rw [hv]; have := of_decide_eq_false gx; rw [beq_iff_eq]; omega), List.append_nil])
      clear hv hxr
      go_wp2_with fail
      go_loopw [3, 5] (fun v i wr => i = .int .i64 0 ∧ MvsO (b1 + 1) (dropT p k) v wr ∧ Row wr b1 p ∧ Below w.heap.size w wr ∧ b1 + 1 ≤ wr.heap.size) (fun _ _ _ => 0)
      case atStart => exact ⟨rfl, HV.out, HR1.out, HB.out, HS.out⟩
      case round =>
       clear HV HR1 HB HS
       obtain ⟨rfl, hv, hr1, hb, hs⟩ := hrel
       have HV := H_ hv
       have HR1 := H_ hr1
       have HB := H_ hb
       have HS := H_ hs
       clear hv hr1 hb hs
       go_wp2_with (first
        | (guard_target = gL 22; refine step_get rfl 5 _ rfl b1 78 rfl Tryz.underlying5 rfl (.int .u8 ((t : Nat) : Int)) ?_ ?_; exact (HR1.out.cell 78 (by decide)).trans (by rw [HTu.out]; rfl))
        | (guard_target = gL 27; refine step_get rfl 5 _ rfl b1 (66 + t * 6 + k) rfl Tryz.underlying5 rfl (.int .u8 x) ?_ ?_; exact (HR1.out.cell (66 + t * 6 + k) (by have := HK.out; omega)).trans (by rw [kAt_pk (by omega) (by have := HK.out; omega), HX.out])))
       go_roundw
       case rel => exact ⟨k + 1, by omega, by have := HK6.out; omega, by go_num, by rw [HTt.out]; exact HV.out, HR1.out, HB.out, HS.out⟩
       case measure => simp [intOf]; have := HK6.out; omega
     ·have HTt := H_ (show dropT p (k + 1) = dropT p k ++ rsT p k 64 by rw [HDn.out, drK_yes (by rw [hv]; have := of_decide_eq_true gx; rw [beq_eq_false_iff_ne]; omega)])
      clear hv hxr
      go_wp2_with fail
      go_loopw [3, 5] (fun v i wr => ∃ s : Nat, s ≤ 64 ∧ i = .int .i64 (s : Int) ∧ MvsO (b1 + 1) (dropT p k ++ rsT p k s) v wr ∧ Row wr b1 p ∧ Below w.heap.size w wr ∧ b1 + 1 ≤ wr.heap.size) (fun _ i _ => 64 - (intOf i).toNat)
      case atStart => exact ⟨0, by omega, rfl, by rw [show rsT p k 0 = [] from rfl, List.append_nil]; exact HV.out, HR1.out, HB.out, HS.out⟩
      case round =>
       clear HV HR1 HB HS
       obtain ⟨s, hs0, rfl, hv, hr1, hb, hs⟩ := hrel
       have HV := H_ hv
       have HR1 := H_ hr1
       have HB := H_ hb
       have HS := H_ hs
       clear hv hr1 hb hs
       by_cases hs2 : s < 64
       ·have HSq := H_ hs2
        have gs : decide (s < 64) = true := decide_eq_true hs2
        have gs2 : decide ((s : Int) < 64) = true := decide_eq_true (by omega)
        have HYr := H_ (HP.out.bd s hs2)
        have hw1 : IntKind.i8.wrap (s : Int) = (s : Int) := IntWalk.i8_in _ (by omega)
        have HLn := H_ (show (dropT p k ++ rsT p k s).length ≤ 1000 by rw [List.length_append]; have := HDl.out; have := rsT_len p k s; omega)
        obtain ⟨y, hy⟩ : ∃ y, p (1 + s) = y := ⟨_, rfl⟩
        have HY := H_ hy
        rw [hy] at HYr
        obtain ⟨kd, hkd⟩ : ∃ kd, kndZ y = kd := ⟨_, rfl⟩
        have HKd := H_ hkd
        have hne := knd_ne y
        rw [hkd] at hne
        clear hy hkd
        cases gp : pcB y
        ·rw [gp] at hne
         cases ge : (k == 1)
         ·have ge2 : ((k : Int) == 1) = false := by rw [beq_eq_false_iff_ne] at ge ⊢; omega
          have HTs := H_ (show rsT p k (s + 1) = rsT p k s ++ [dmv k s] by rw [rsT_next]; unfold skB; rw [HY.out, gp, ge]; rfl)
          obtain ⟨LA, hLA⟩ : ∃ LA, dropT p k ++ rsT p k s = LA := ⟨_, rfl⟩
          have HTs := H_ (show dropT p k ++ rsT p k (s + 1) = LA ++ [dmv k s] by rw [HTs.out, ← List.append_assoc, hLA])
          have HV := H_ (show MvsO (b1 + 1) LA u3 wr by rw [← hLA]; exact HV.out)
          rw [hLA] at HLn
          clear hLA
          go_wp2_with (first
           | (guard_target = gL 22; refine step_get rfl 5 _ rfl b1 78 rfl Tryz.underlying5 rfl (.int .u8 ((t : Nat) : Int)) ?_ ?_; exact (HR1.out.cell 78 (by decide)).trans (by rw [HTu.out]; rfl))
           | (guard_target = gL 27; refine step_get rfl 5 _ rfl b1 (66 + t * 6 + k) rfl Tryz.underlying5 rfl (.int .u8 x) ?_ ?_; exact (HR1.out.cell (66 + t * 6 + k) (by have := HK.out; omega)).trans (by rw [kAt_pk (by omega) (by have := HK.out; omega), HX.out]))
           | (guard_target = gL 35; refine step_get rfl 5 _ rfl b1 (1 + s) rfl Tryz.underlying5 rfl (.int .u8 y) ?_ ?_; exact (HR1.out.cell (1 + s) (by have := HSq.out; omega)).trans (by rw [kAt_board (Nat.zero_le _) HSq.out, HY.out]))
           | (go_at_call 28; refine (rkind_dr y _ HYr.out.1 HYr.out.2).mono ?_; rintro e w3 ⟨rfl, rfl⟩; rw [HKd.out])
           | (guard_target = gD 57; refine step_build (op := ⟨some 57, .build _ _, _, _, _, _⟩) rfl 40 _ rfl (mvA ⟨(s : Int), (s : Int), 0, (k : Int), false⟩) (by kernel_rfl) ?_; show wpList _ _ _ _ (Act.put _ _ (Value.agg #[.int .i8 (s : Int), .int .i8 (s : Int), .int .u8 0, .int .u8 (k : Int), .bool false])) _)
           | (at_builtin; refine wpList_append_own_at _ rfl _ _ 33 rfl (b1 + 1) 40 i0 (.agg (mvA mv0)) 5 5 Tryz.underlying33 hi hz0 hz1 hz2 rfl (by decide) _ _ _ rfl (World.ownsRow.alloc HV.out _) ⟨_, 0, none⟩ 1 1 (mvA (dmv k s)).toList rfl rfl ?c1 ?c2 ?c3 ?c4 ?c5 ?_))
          case c1 => exact mcells_new _ (mvA (dmv k s)) _
          case c2 => simp [mvA, Value.oneCell']
          case c3 => unfold maxLen; have := HLn.out; omega
          case c4 => have := HLn.out; omega
          case c5 => have := HS.out; simp; omega
          intro v' w8 hown' hgrow _ hat
          have HVn := H_ (HV.out.grow hown')
          have hkp := (Kept.of_call (fun k => u3.ownBlock = some k) (box_below _ _)).trans (mkept_grown hgrow)
          have HR1n := H_ (row_keptDr HR1.out hkp (fun e => by have h1 := HV.out.from e; omega))
          have HBn := H_ (HB.out.trans (hkp.below (fun i hi => by have h1 := HV.out.from hi; have := HG1.out; omega) HB.out.size))
          have HSn := H_ (Nat.le_trans HS.out hkp.size)
          clear hkp hown' hgrow hat
          go_wp2_with fail
          go_roundw
          case rel => exact ⟨s + 1, by have := HSq.out; omega, by go_num, by rw [HTs.out]; exact HVn.out, HR1n.out, HBn.out, HSn.out⟩
          case measure => simp [intOf]; have := HSq.out; omega
         ·have ge2 : ((k : Int) == 1) = true := by rw [beq_iff_eq] at ge ⊢; omega
          cases g8 : decide (s < 8)
          ·have g8' : decide ((s : Int) < 8) = false := decide_eq_false (by have := of_decide_eq_false g8; omega)
           cases g55 : decide (55 < s)
           ·have g55' : decide (55 < (s : Int)) = false := decide_eq_false (by have := of_decide_eq_false g55; omega)
            have HTs := H_ (show rsT p k (s + 1) = rsT p k s ++ [dmv k s] by rw [rsT_next]; unfold skB; rw [HY.out, gp, ge, g8, g55]; rfl)
            obtain ⟨LA, hLA⟩ : ∃ LA, dropT p k ++ rsT p k s = LA := ⟨_, rfl⟩
            have HTs := H_ (show dropT p k ++ rsT p k (s + 1) = LA ++ [dmv k s] by rw [HTs.out, ← List.append_assoc, hLA])
            have HV := H_ (show MvsO (b1 + 1) LA u3 wr by rw [← hLA]; exact HV.out)
            rw [hLA] at HLn
            clear hLA
            go_wp2_with (first
             | (guard_target = gL 22; refine step_get rfl 5 _ rfl b1 78 rfl Tryz.underlying5 rfl (.int .u8 ((t : Nat) : Int)) ?_ ?_; exact (HR1.out.cell 78 (by decide)).trans (by rw [HTu.out]; rfl))
             | (guard_target = gL 27; refine step_get rfl 5 _ rfl b1 (66 + t * 6 + k) rfl Tryz.underlying5 rfl (.int .u8 x) ?_ ?_; exact (HR1.out.cell (66 + t * 6 + k) (by have := HK.out; omega)).trans (by rw [kAt_pk (by omega) (by have := HK.out; omega), HX.out]))
             | (guard_target = gL 35; refine step_get rfl 5 _ rfl b1 (1 + s) rfl Tryz.underlying5 rfl (.int .u8 y) ?_ ?_; exact (HR1.out.cell (1 + s) (by have := HSq.out; omega)).trans (by rw [kAt_board (Nat.zero_le _) HSq.out, HY.out]))
             | (go_at_call 28; refine (rkind_dr y _ HYr.out.1 HYr.out.2).mono ?_; rintro e w3 ⟨rfl, rfl⟩; rw [HKd.out])
             | (guard_target = gD 57; refine step_build (op := ⟨some 57, .build _ _, _, _, _, _⟩) rfl 40 _ rfl (mvA ⟨(s : Int), (s : Int), 0, (k : Int), false⟩) (by kernel_rfl) ?_; show wpList _ _ _ _ (Act.put _ _ (Value.agg #[.int .i8 (s : Int), .int .i8 (s : Int), .int .u8 0, .int .u8 (k : Int), .bool false])) _)
             | (at_builtin; refine wpList_append_own_at _ rfl _ _ 33 rfl (b1 + 1) 40 i0 (.agg (mvA mv0)) 5 5 Tryz.underlying33 hi hz0 hz1 hz2 rfl (by decide) _ _ _ rfl (World.ownsRow.alloc HV.out _) ⟨_, 0, none⟩ 1 1 (mvA (dmv k s)).toList rfl rfl ?c1 ?c2 ?c3 ?c4 ?c5 ?_))
            case c1 => exact mcells_new _ (mvA (dmv k s)) _
            case c2 => simp [mvA, Value.oneCell']
            case c3 => unfold maxLen; have := HLn.out; omega
            case c4 => have := HLn.out; omega
            case c5 => have := HS.out; simp; omega
            intro v' w8 hown' hgrow _ hat
            have HVn := H_ (HV.out.grow hown')
            have hkp := (Kept.of_call (fun k => u3.ownBlock = some k) (box_below _ _)).trans (mkept_grown hgrow)
            have HR1n := H_ (row_keptDr HR1.out hkp (fun e => by have h1 := HV.out.from e; omega))
            have HBn := H_ (HB.out.trans (hkp.below (fun i hi => by have h1 := HV.out.from hi; have := HG1.out; omega) HB.out.size))
            have HSn := H_ (Nat.le_trans HS.out hkp.size)
            clear hkp hown' hgrow hat
            go_wp2_with fail
            go_roundw
            case rel => exact ⟨s + 1, by have := HSq.out; omega, by go_num, by rw [HTs.out]; exact HVn.out, HR1n.out, HBn.out, HSn.out⟩
            case measure => simp [intOf]; have := HSq.out; omega
           ·have g55' : decide (55 < (s : Int)) = true := decide_eq_true (by have := of_decide_eq_true g55; omega)
            have HTs := H_ (show rsT p k (s + 1) = rsT p k s by rw [rsT_next]; unfold skB; rw [HY.out, gp, ge, g8, g55]; exact List.append_nil _)
            go_wp2_with (first
             | (guard_target = gL 22; refine step_get rfl 5 _ rfl b1 78 rfl Tryz.underlying5 rfl (.int .u8 ((t : Nat) : Int)) ?_ ?_; exact (HR1.out.cell 78 (by decide)).trans (by rw [HTu.out]; rfl))
             | (guard_target = gL 27; refine step_get rfl 5 _ rfl b1 (66 + t * 6 + k) rfl Tryz.underlying5 rfl (.int .u8 x) ?_ ?_; exact (HR1.out.cell (66 + t * 6 + k) (by have := HK.out; omega)).trans (by rw [kAt_pk (by omega) (by have := HK.out; omega), HX.out]))
             | (guard_target = gL 35; refine step_get rfl 5 _ rfl b1 (1 + s) rfl Tryz.underlying5 rfl (.int .u8 y) ?_ ?_; exact (HR1.out.cell (1 + s) (by have := HSq.out; omega)).trans (by rw [kAt_board (Nat.zero_le _) HSq.out, HY.out]))
             | (go_at_call 28; refine (rkind_dr y _ HYr.out.1 HYr.out.2).mono ?_; rintro e w3 ⟨rfl, rfl⟩; rw [HKd.out]))
            go_roundw
            case rel => exact ⟨s + 1, by have := HSq.out; omega, by go_num, by rw [HTs.out]; exact HV.out, HR1.out, HB.out, HS.out⟩
            case measure => simp [intOf]; have := HSq.out; omega
          ·have g8' : decide ((s : Int) < 8) = true := decide_eq_true (by have := of_decide_eq_true g8; omega)
           have HTs := H_ (show rsT p k (s + 1) = rsT p k s by rw [rsT_next]; unfold skB; rw [HY.out, gp, ge, g8]; exact List.append_nil _)
           go_wp2_with (first
            | (guard_target = gL 22; refine step_get rfl 5 _ rfl b1 78 rfl Tryz.underlying5 rfl (.int .u8 ((t : Nat) : Int)) ?_ ?_; exact (HR1.out.cell 78 (by decide)).trans (by rw [HTu.out]; rfl))
            | (guard_target = gL 27; refine step_get rfl 5 _ rfl b1 (66 + t * 6 + k) rfl Tryz.underlying5 rfl (.int .u8 x) ?_ ?_; exact (HR1.out.cell (66 + t * 6 + k) (by have := HK.out; omega)).trans (by rw [kAt_pk (by omega) (by have := HK.out; omega), HX.out]))
            | (guard_target = gL 35; refine step_get rfl 5 _ rfl b1 (1 + s) rfl Tryz.underlying5 rfl (.int .u8 y) ?_ ?_; exact (HR1.out.cell (1 + s) (by have := HSq.out; omega)).trans (by rw [kAt_board (Nat.zero_le _) HSq.out, HY.out]))
            | (go_at_call 28; refine (rkind_dr y _ HYr.out.1 HYr.out.2).mono ?_; rintro e w3 ⟨rfl, rfl⟩; rw [HKd.out]))
           go_roundw
           case rel => exact ⟨s + 1, by have := HSq.out; omega, by go_num, by rw [HTs.out]; exact HV.out, HR1.out, HB.out, HS.out⟩
           case measure => simp [intOf]; have := HSq.out; omega
        ·rw [gp] at hne
         have HTs := H_ (show rsT p k (s + 1) = rsT p k s by rw [rsT_next]; unfold skB; rw [HY.out, gp]; exact List.append_nil _)
         go_wp2_with (first
          | (guard_target = gL 22; refine step_get rfl 5 _ rfl b1 78 rfl Tryz.underlying5 rfl (.int .u8 ((t : Nat) : Int)) ?_ ?_; exact (HR1.out.cell 78 (by decide)).trans (by rw [HTu.out]; rfl))
          | (guard_target = gL 27; refine step_get rfl 5 _ rfl b1 (66 + t * 6 + k) rfl Tryz.underlying5 rfl (.int .u8 x) ?_ ?_; exact (HR1.out.cell (66 + t * 6 + k) (by have := HK.out; omega)).trans (by rw [kAt_pk (by omega) (by have := HK.out; omega), HX.out]))
          | (guard_target = gL 35; refine step_get rfl 5 _ rfl b1 (1 + s) rfl Tryz.underlying5 rfl (.int .u8 y) ?_ ?_; exact (HR1.out.cell (1 + s) (by have := HSq.out; omega)).trans (by rw [kAt_board (Nat.zero_le _) HSq.out, HY.out]))
          | (go_at_call 28; refine (rkind_dr y _ HYr.out.1 HYr.out.2).mono ?_; rintro e w3 ⟨rfl, rfl⟩; rw [HKd.out]))
         go_roundw
         case rel => exact ⟨s + 1, by have := HSq.out; omega, by go_num, by rw [HTs.out]; exact HV.out, HR1.out, HB.out, HS.out⟩
         case measure => simp [intOf]; have := HSq.out; omega
       ·obtain rfl : s = 64 := by omega
        have gs2 : decide ((64 : Int) < 64) = false := by decide
        go_wp2_with fail
        go_roundw
        case rel => exact ⟨k + 1, by omega, by have := HK6.out; omega, by go_num, by rw [HTt.out]; exact HV.out, HR1.out, HB.out, HS.out⟩
        case measure => simp [intOf]; have := HK6.out; omega
    ·obtain rfl : k = 6 := by omega
     go_wp2_with fail
     exact bodyPost_ret (results_tmp rfl _ _ _) rfl ⟨_, rfl, by rw [HL.out]; exact World.ownsRow.mono HV.out (Nat.le_succ_of_le HG1.out), HB.out⟩
 ·have g1' : 1 < p 78 := of_decide_eq_true g1
  have HL := H_ (drL_none (p := p) (Or.inl g1'))
  go_enter Tryz.func22, Tryz.ntmps22
  go_wp2_with (first
   | (guard_target = gB 1; refine step_box rfl _ rfl p rfl ?_; intro b1 w1 N R; have HG1 := H_ (nA HB.out N); have HB := H_ (below_on HB.out N.below); have HR1 := H_ R; clear N R)
   | (guard_target = gL 6; refine gU rfl 5 _ rfl Tryz.underlying5 HR1.out 78 (by decide) rfl rfl ?_)
   | (guard_target = gL 10; refine gU rfl 5 _ rfl Tryz.underlying5 HR1.out 0 (by decide) rfl rfl ?_))
  exact bodyPost_ret (results_tmp rfl _ _ _) rfl ⟨_, rfl, by rw [HL.out]; exact World.ownsRow_nil _ _ _ _, HB.out⟩
end Go.Proofs.YtidgfadbdgheiaaGreatDoor
