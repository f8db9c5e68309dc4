/-
 Contract of drop's List.
-/
import Derived.Test.YtidgfadbdgheiaaGreatDoorDrA
import Derived.Test.YtidgfadbdgheiaaGreatDoorEach
import Derived.Test.YtidgfadbdgheiaaGreatDoorVaBaseB
import Derived.Test.YtidgfadbdgheiaaGreatDoorAfBaseK
import Derived.WalkMore
namespace Go.Proofs.YtidgfadbdgheiaaGreatDoor
open Go.RowKit Go.Shelf
set_option linter.unusedVariables false
set_option linter.unusedSimpArgs false
attribute [local go_sem] Oper.semAt_some

theorem row_keptDr {w w' : World} {X : Nat → Prop} {b : Nat} {p : Nat → Int} (h : Row w b p) (k : Kept X w w') (hx : ¬ X b) : Row w' b p := k.obj (show w.heap[b]? = _ from h) hx
theorem MvsO.ltDr {B : Nat} {L : List Mv} {v : Value} {w : World} (h : MvsO B L v w) {k : Nat} (hk : v.ownBlock = some k) : k < w.heap.size := by
 rcases h.2 with ⟨rfl, _⟩ | ⟨g, cap, cur, rfl, _, hg, _⟩
 ·cases hk
 ·simp [Value.ownBlock] at hk; subst hk; exact (Array.getElem?_eq_some_iff.1 hg).1
theorem dr_poc (p : Nat → Int) (w : World) (h : 0 ≤ p 0 ∧ p 0 ≤ 255) (hT : TabVar w) : Calls Tryz.prog 45 #[.int .u8 (p 0)] w (BoL (p 0 == 2) w) := by
 obtain ⟨n, hn⟩ := Int.eq_ofNat_of_zero_le h.1
 have := poc_any n w (by omega) hT
 rw [poc_int, ← hn] at this
 exact this
theorem listed_slice {B : Nat} {l : List Nat} {v : Value} {w : World} (h : Listed B l v w) : ∃ a c, v = .slice a l.length c := by
 rcases h.2 with ⟨rfl, hn⟩ | ⟨g, cap, cur, rfl, _⟩
 ·exact ⟨none, 0, by rw [hn]⟩
 ·exact ⟨_, _, rfl⟩
def DrM (p : Nat → Int) (w : World) (e : Ending) (w' : World) : Prop := ∃ v, e = .returned v ∧ MvsO w.heap.size (drL p) v w' ∧ Below w.heap.size w w'
structure DrT (w : World) : Prop where
 var : TabVar w
 db : TabDb w
theorem DrT.on {w w' : World} (h : DrT w) (hb : Below w.heap.size w w') : DrT w' := ⟨h.var.on hb, h.db.on hb⟩
set_option maxRecDepth 100000 in
set_option maxHeartbeats 4000000 in
theorem list_dr (p : Nat → Int) (w : World) (hp : DrR p) (hT : DrT w) : Calls Tryz.prog 19 #[.agg (posA p)] w (DrM p w) := by
 have HP := Lib.hid hp
 have HT := Lib.hid hT
 have HB := Lib.hid (Below.refl w.heap.size w)
 clear hp hT
 cases gp : (p 0 == 2)
 ·have HG := Lib.hid gp
  have HL := Lib.hid (drL_none (p := p) (Or.inr gp))
  clear gp
  go_enter Tryz.func19, Tryz.ntmps19
  go_wp2_with (first
   | (guard_target = Go.wpList _ _ _ ((⟨some 1, .box _ _, _, _, _, _⟩ : Go.Oper) :: _) _ _; refine step_box rfl _ rfl p rfl ?_; intro b1 w1 N R; have HG1 := Lib.hid (show w.heap.size ≤ b1 by have := HB.out.size; have := N.at_; omega); have HB := Lib.hid (below_on HB.out N.below); have HR1 := Lib.hid R; clear N R))
  go_step3
  go_wp2_with (first
   | (guard_target = Go.wpList _ _ _ ((⟨some _, .load _ (.tmp 8), _, _, _, _⟩ : Go.Oper) :: _) _ _; refine step_get rfl 5 _ rfl b1 0 rfl Tryz.underlying5 rfl (.int .u8 (p 0)) ?_ ?_; exact HR1.out.cell 0 (by decide))
   | (go_at_call 45; refine (dr_poc p _ HP.out.var (HT.out.on HB.out).var).mono ?_; rintro e w3 ⟨rfl, hb⟩; rw [HG.out]; have HR1 := Lib.hid (HR1.out.later hb); have HB := Lib.hid (below_on HB.out hb); clear hb))
  try rw [Exit.noGoto_ret]
  exact bodyPost_ret (results_tmp rfl _ _ _) rfl ⟨_, rfl, by rw [HL.out]; exact World.ownsRow_nil _ _ _ _, HB.out⟩
 ·have HG := Lib.hid gp
  have HL := Lib.hid (show drL p = dropT p 6 by unfold drL; rw [gp]; rfl)
  have HX := Lib.hid (show bits .xor .u64 IntKind.u64.max ((occN p : Nat) : Int) = ((emN p : Nat) : Int) from xor_full (occN_lt p))
  clear gp
  obtain ⟨i0, hi, hz0, hz1, hz2⟩ : ∃ i, Tryz.prog.info? 40 = some i ∧ i.zero = some (.agg (mvA mv0)) ∧ i.size = 5 ∧ i.bytes = 5 := by
   cases h : Tryz.prog.info? 40 with
   | none => have := infoMv; rw [h] at this; cases this
   | some i => have := infoMv; rw [h] at this; simp at this; exact ⟨i, rfl, this.1, this.2.1, this.2.2⟩
  go_enter Tryz.func19, Tryz.ntmps19
  go_wp2_with (first
   | (guard_target = Go.wpList _ _ _ ((⟨some 1, .box _ _, _, _, _, _⟩ : Go.Oper) :: _) _ _; refine step_box rfl _ rfl p rfl ?_; intro b1 w1 N R; have HG1 := Lib.hid (show w.heap.size ≤ b1 by have := HB.out.size; have := N.at_; omega); have HB := Lib.hid (below_on HB.out N.below); have HR1 := Lib.hid R; clear N R))
  go_step3
  go_wp2_with (first
   | (guard_target = Go.wpList _ _ _ ((⟨some _, .load _ (.tmp 1), _, _, _, _⟩ : Go.Oper) :: _) _ _; refine step_load rfl _ rfl b1 rfl p HR1.out ?_)
   | (guard_target = Go.wpList _ _ _ ((⟨some _, .load _ (.tmp 8), _, _, _, _⟩ : Go.Oper) :: _) _ _; refine step_get rfl 5 _ rfl b1 0 rfl Tryz.underlying5 rfl (.int .u8 (p 0)) ?_ ?_; exact HR1.out.cell 0 (by decide))
   | (go_at_call 45; refine (dr_poc p _ HP.out.var (HT.out.on HB.out).var).mono ?_; rintro e w3 ⟨rfl, hb⟩; rw [HG.out]; have HR1 := Lib.hid (HR1.out.later hb); have HB := Lib.hid (below_on HB.out hb); clear hb)
   | (go_at_call 26; refine (all_set p _ HP.out.bd).mono ?_; rintro e w4 ⟨rfl, hb⟩; have HR1 := Lib.hid (HR1.out.later hb); have HB := Lib.hid (below_on HB.out hb); clear hb))
  go_step3
  go_wp2_with fail
  rw [HX.out]
  go_loopw [3, 15] (fun v i wr => ∃ k : Nat, k ≤ 6 ∧ i = .int .u8 (k : Int) ∧ MvsO (b1 + 1) (dropT p k) v wr ∧ Row wr b1 p ∧ Below w.heap.size w wr ∧ b1 + 1 ≤ wr.heap.size) (fun _ i _ => 6 - (intOf i).toNat)
  case atStart => exact ⟨0, by omega, rfl, World.ownsRow_nil _ _ _ _, HR1.out, HB.out, HR1.out.lt⟩
  case round =>
   clear HR1 HB
   obtain ⟨k, hk, rfl, hv, hr1, hb, hs⟩ := hrel
   have HV := Lib.hid hv
   have HR1 := Lib.hid hr1
   have HB := Lib.hid hb
   have HS := Lib.hid hs
   clear hv hr1 hb hs
   by_cases hlt : k < 6
   ·have HK6 := Lib.hid hlt
    have HDn := Lib.hid (drT_next p k)
    have HDl := Lib.hid (drT_len p k)
    obtain ⟨x, hx⟩ : ∃ x, helC p (p 78) (k : Int) = x := ⟨_, rfl⟩
    have HH := Lib.hid hx
    cases gx : (x == 0)
    ·have HKs := Lib.hid (show drK p k = (listN (opN (emN p) k)).map (dmv k) by unfold drK; rw [hx, gx]; rfl)
     obtain ⟨PL, hPL⟩ : ∃ PL, listN (opN (emN p) k) = PL := ⟨_, rfl⟩
     have HPn := Lib.hid (show PL.length ≤ 64 by rw [← hPL]; exact listN_len _)
     have HPs := Lib.hid (show ∀ s ∈ PL, s < 64 by rw [← hPL]; exact fun s h => List.mem_range.1 (List.mem_filter.1 (show s ∈ (List.range 64).filter (fun i => (opN (emN p) k).testBit i) from h)).1)
     rw [hPL] at HKs
     have HPL := Lib.hid hPL
     clear hPL
     clear hx
     go_wp2_with (first
     | (guard_target = Go.wpList _ _ _ ((⟨some _, .load _ (.tmp 1), _, _, _, _⟩ : Go.Oper) :: _) _ _; refine step_load rfl _ rfl b1 rfl p HR1.out ?_)
     | (guard_target = Go.wpList _ _ _ ((⟨some _, .load _ (.tmp 19), _, _, _, _⟩ : Go.Oper) :: _) _ _; refine step_get rfl 5 _ rfl b1 78 rfl Tryz.underlying5 rfl (.int .u8 (p 78)) ?_ ?_; exact HR1.out.cell 78 (by decide))
     | (go_at_call 46; refine (dr_held p (p 78) (k : Int) _ HP.out.turn.1).mono ?_; rintro e w5 ⟨rfl, hb⟩; rw [HH.out]; have HR1 := Lib.hid (HR1.out.later hb); have HV := Lib.hid (HV.out.later hb); have HS := Lib.hid (Nat.le_trans HS.out hb.size); have HB := Lib.hid (below_on HB.out hb); clear hb)
     | (go_at_call 48; refine (dr_open _ k _ (emN_lt p)).mono ?_; rintro e w6 ⟨rfl, rfl⟩)
     | (go_at_call 47; refine (list_any _ _ (opN_lt (emN_lt p) k) (HT.out.on HB.out).db).mono ?_; rintro e w7 ⟨v7, rfl, hv7, hb⟩; rw [HPL.out] at hv7; obtain ⟨a7, c7, rfl⟩ := listed_slice hv7; have HQ7 := Lib.hid (show ListedK .i64 3 w5.heap.size PL (.slice a7 PL.length c7) w7 from hv7); have HN7 := Lib.hid (show b1 < w5.heap.size ∧ ∀ k, u3.ownBlock = some k → k < w5.heap.size from ⟨HR1.out.lt, fun k e => HV.out.ltDr e⟩); have HR1 := Lib.hid (HR1.out.later hb); have HV := Lib.hid (HV.out.later hb); have HS := Lib.hid (Nat.le_trans HS.out hb.size); have HB := Lib.hid (below_on HB.out hb); clear hb hv7))
     have hq7 := HQ7.out
     have hn7 := HN7.out
     obtain ⟨B7, hB7⟩ : ∃ B7, B7 = w5.heap.size := ⟨_, rfl⟩
     rw [← hB7] at hq7 hn7
     clear HQ7 HN7
     by_cases hne : 0 < PL.length
     ·obtain ⟨g7, cap7, cur7, hLi⟩ := listedK_open hq7 hne
      obtain ⟨rfl, rfl⟩ : a7 = some ⟨g7, 0, none⟩ ∧ c7 = cap7 := by have := hLi.val; injection this with h1 h2 h3; exact ⟨h1, h3⟩
      have HLi := Lib.hid hLi
      have HNg := Lib.hid (show b1 < g7 ∧ ∀ k, u3.ownBlock = some k → k ≠ g7 from ⟨by have := hn7.1; have := hLi.base; omega, fun k e => by have := hn7.2 k e; have := hLi.base; omega⟩)
      clear hLi hq7 hn7 hB7
      go_loopw [3, 29] (fun v i wr => ∃ j : Nat, j ≤ PL.length ∧ i = .int .i64 (j : Int) ∧ MvsO (b1 + 1) (dropT p k ++ (PL.take j).map (dmv k)) v wr ∧ (∀ k, v.ownBlock = some k → k ≠ g7) ∧ Lies .i64 3 B7 PL (.slice (some ⟨g7, 0, none⟩) PL.length c7) g7 c7 cur7 wr ∧ Row wr b1 p ∧ Below w.heap.size w wr ∧ b1 + 1 ≤ wr.heap.size) (fun _ i _ => PL.length - (intOf i).toNat)
      case atStart => exact ⟨0, by omega, rfl, by rw [List.take_zero, List.map_nil, List.append_nil]; exact HV.out, HNg.out.2, HLi.out, HR1.out, HB.out, HS.out⟩
      case round =>
       clear HV HLi HR1 HB HS
       obtain ⟨j, hj, rfl, hv, how, hli, hr1, hb, hs⟩ := hrel
       have HV := Lib.hid hv
       have HOw := Lib.hid how
       have HLi := Lib.hid hli
       have HR1 := Lib.hid hr1
       have HB := Lib.hid hb
       have HS := Lib.hid hs
       clear hv how hli hr1 hb hs
       by_cases hjl : j < PL.length
       ·have HJl := Lib.hid hjl
        have hj64 : j < 64 := by have := HPn.out; omega
        obtain ⟨sq, hsq⟩ : ∃ sq, PL[j] = sq := ⟨_, rfl⟩
        have HKj := Lib.hid hsq
        have hs64 : sq < 64 := HPs.out sq (by rw [← hsq]; exact List.getElem_mem _)
        obtain ⟨LA, hLA⟩ : ∃ LA, dropT p k ++ (PL.take j).map (dmv k) = LA := ⟨_, rfl⟩
        have HTk := Lib.hid (show dropT p k ++ (PL.take (j + 1)).map (dmv k) = LA ++ [dmv k sq] by
         rw [← hLA, List.append_assoc]; congr 1; rw [List.take_add_one, List.getElem?_eq_some_iff.2 ⟨hjl, hsq⟩, List.map_append]; rfl)
        have HLn := Lib.hid (show LA.length ≤ 1000 by rw [← hLA, List.length_append, List.length_map, List.length_take]; have h1 := HDl.out; have := HPn.out; omega)
        have HV := Lib.hid (show MvsO (b1 + 1) LA u3 wr by rw [← hLA]; exact HV.out)
        have hw1 : IntKind.i8.wrap (sq : Int) = (sq : Int) := IntWalk.i8_in _ (by omega)
        clear hsq hLA
        go_wp2_with (first
         | (guard_target = Go.wpList _ _ _ ((⟨some 32, .load _ (.tmp 31), _, _, _, _⟩ : Go.Oper) :: _) _ _; refine step_get rfl 3 _ rfl g7 j rfl Tryz.underlying3 rfl (.int .i64 ((sq : Nat) : Int)) ?_ ?_; exact (HLi.out.cell j HJl.out).trans (congrArg (fun n : Nat => some (Value.int .i64 (n : Int))) HKj.out))
         | (guard_target = Go.wpList _ _ _ ((⟨some 39, .build _ _, _, _, _, _⟩ : Go.Oper) :: _) _ _; refine step_build (op := ⟨some 39, .build _ _, _, _, _, _⟩) rfl 40 _ rfl (mvA ⟨(sq : Int), (sq : Int), 0, (k : Int), false⟩) (by kernel_rfl) ?_; show wpList _ _ _ _ (Act.put _ _ (Value.agg #[.int .i8 (sq : Int), .int .i8 (sq : Int), .int .u8 0, .int .u8 (k : Int), .bool false])) _)
         | (at_builtin; refine wpList_append_own_at _ rfl _ _ 33 rfl (b1 + 1) 40 i0 (.agg (mvA mv0)) 5 5 Tryz.underlying33 hi hz0 hz1 hz2 rfl (by decide) _ _ _ rfl (World.ownsRow.alloc HV.out _) ⟨_, 0, none⟩ 1 1 (mvA (dmv k sq)).toList rfl rfl ?c1 ?c2 ?c3 ?c4 ?c5 ?_))
        case c1 => exact mcells_new _ (mvA (dmv k sq)) _
        case c2 => simp [mvA, Value.oneCell']
        case c3 => unfold maxLen; have := HLn.out; omega
        case c4 => have := HLn.out; omega
        case c5 => have := HS.out; simp; omega
        intro v' w8 hown' hgrow _ hat
        have HVn := Lib.hid (HV.out.grow hown')
        have hkp := (Kept.of_call (fun k => u3.ownBlock = some k) (box_below _ _)).trans (mkept_grown hgrow)
        have HR1n := Lib.hid (row_keptDr HR1.out hkp (fun e => by have h1 := HV.out.from e; omega))
        have HBn := Lib.hid (HB.out.trans (hkp.below (fun i hi => by have h1 := HV.out.from hi; have := HG1.out; omega) HB.out.size))
        have HSn := Lib.hid (Nat.le_trans HS.out hkp.size)
        have HOwn := Lib.hid (show ∀ k, v'.ownBlock = some k → k ≠ g7 by
         intro k e
         rcases hat with e2 | e2
         ·exact HOw.out k (e2 ▸ e)
         ·rw [e2] at e
          injection e with e
          have h2 := Blk.lt HLi.out.blk
          try simp at e
          omega)
        have HLin := Lib.hid (show Lies .i64 3 B7 PL (.slice (some ⟨g7, 0, none⟩) PL.length c7) g7 c7 cur7 w8 from { HLi.out with blk := hkp.obj (show wr.heap[g7]? = _ from HLi.out.blk) (fun e => HOw.out _ e rfl) })
        clear hkp hown' hgrow hat
        go_wp2_with fail
        go_roundw
        case rel => exact ⟨j + 1, by have := HJl.out; omega, by go_num, by rw [HTk.out]; exact HVn.out, HOwn.out, HLin.out, HR1n.out, HBn.out, HSn.out⟩
        case measure => simp [intOf]; have := HJl.out; omega
       ·obtain rfl : j = PL.length := by omega
        have HTt := Lib.hid (show dropT p (k + 1) = dropT p k ++ (PL.take PL.length).map (dmv k) by rw [HDn.out, HKs.out, List.take_length])
        go_wp2_with fail
        go_roundw
        case rel => exact ⟨k + 1, by have := HK6.out; omega, by go_num, by rw [HTt.out]; exact HV.out, HR1.out, HB.out, HS.out⟩
        case measure => simp [intOf]; have := HK6.out; omega
     ·have hnil : PL = [] := List.eq_nil_of_length_eq_zero (by omega)
      have HTt := Lib.hid (show dropT p (k + 1) = dropT p k by rw [HDn.out, HKs.out, hnil, List.map_nil, List.append_nil])
      have hl0 : PL.length = 0 := by rw [hnil]; rfl
      rw [hl0]
      clear hq7 hn7 hB7 hne hnil hl0
      go_loopw [3, 29] (fun v i wr => i = .int .i64 0 ∧ MvsO (b1 + 1) (dropT p k) v wr ∧ Row wr b1 p ∧ Below w.heap.size w wr ∧ b1 + 1 ≤ wr.heap.size) (fun _ _ _ => 0)
      case atStart => exact ⟨rfl, HV.out, HR1.out, HB.out, HS.out⟩
      case round =>
       clear HV HR1 HB HS
       obtain ⟨rfl, hv, hr1, hb, hs⟩ := hrel
       have HV := Lib.hid hv
       have HR1 := Lib.hid hr1
       have HB := Lib.hid hb
       have HS := Lib.hid hs
       clear hv hr1 hb hs
       go_wp2_with fail
       go_roundw
       case rel => exact ⟨k + 1, by have := HK6.out; omega, by go_num, by rw [HTt.out]; exact HV.out, HR1.out, HB.out, HS.out⟩
       case measure => simp [intOf]; have := HK6.out; omega
    ·have HTt := Lib.hid (show dropT p (k + 1) = dropT p k by rw [HDn.out, drK_no (by rw [hx, gx]), List.append_nil])
     clear hx
     go_wp2_with (first
     | (guard_target = Go.wpList _ _ _ ((⟨some _, .load _ (.tmp 1), _, _, _, _⟩ : Go.Oper) :: _) _ _; refine step_load rfl _ rfl b1 rfl p HR1.out ?_)
     | (guard_target = Go.wpList _ _ _ ((⟨some _, .load _ (.tmp 19), _, _, _, _⟩ : Go.Oper) :: _) _ _; refine step_get rfl 5 _ rfl b1 78 rfl Tryz.underlying5 rfl (.int .u8 (p 78)) ?_ ?_; exact HR1.out.cell 78 (by decide))
     | (go_at_call 46; refine (dr_held p (p 78) (k : Int) _ HP.out.turn.1).mono ?_; rintro e w5 ⟨rfl, hb⟩; rw [HH.out]; have HR1 := Lib.hid (HR1.out.later hb); have HV := Lib.hid (HV.out.later hb); have HS := Lib.hid (Nat.le_trans HS.out hb.size); have HB := Lib.hid (below_on HB.out hb); clear hb))
     go_roundw
     case rel => exact ⟨k + 1, by have := HK6.out; omega, by go_num, by rw [HTt.out]; exact HV.out, HR1.out, HB.out, HS.out⟩
     case measure => simp [intOf]; have := HK6.out; omega
   ·obtain rfl : k = 6 := by omega
    go_wp2_with fail
    try rw [Exit.noGoto_ret]
    exact bodyPost_ret (results_tmp rfl _ _ _) rfl ⟨_, rfl, by rw [HL.out]; exact World.ownsRow.mono HV.out (Nat.le_succ_of_le HG1.out), HB.out⟩
end Go.Proofs.YtidgfadbdgheiaaGreatDoor
