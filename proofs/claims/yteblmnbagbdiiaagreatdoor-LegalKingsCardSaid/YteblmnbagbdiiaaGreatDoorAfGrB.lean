/-
 Several texts in one: AfB, AfC, AfE.
-/
import Derived.Test.YteblmnbagbdiiaaGreatDoorAfGrA
/-
 Layer 16: contracts of the change's arriving, kept, castle, carryRooksMark, carryMark.
-/
set_option maxRecDepth 100000
set_option maxHeartbeats 1000000
namespace Go.Proofs.YteblmnbagbdiiaaGreatDoor
open Go.RowKit Go.Shelf
set_option linter.unusedVariables false
set_option linter.unusedSimpArgs false
attribute [local go_sem] Oper.semAt_some

def AfT (b : Nat) (w : World) : Prop := b < w.heap.size ∧ ∀ w', Below b w w' → CsT w'
theorem AfT.at {b : Nat} {w w' : World} (h : AfT b w) (k : Kept (fun k => k = b) w w') : CsT w' := h.2 _ (k.below (fun _ e => Nat.le_of_eq e.symm) (Nat.le_of_lt h.1))
theorem AfT.on {b : Nat} {w w' : World} (h : AfT b w) (k : Kept (fun k => k = b) w w') : AfT b w' :=
 ⟨Nat.lt_of_lt_of_le h.1 k.size, fun w2 hb => h.2 _ ((k.below (fun _ e => Nat.le_of_eq e.symm) (Nat.le_of_lt h.1)).trans hb)⟩
structure ChR (p : Nat → Int) (c : Ch) : Prop where
 wf : WfP p
 turn : p 78 = 0 ∨ p 78 = 1
 m : FitV c.m
 f : 0 ≤ c.m.f ∧ c.m.f < 64
 t : 0 ≤ c.m.t ∧ c.m.t < 64
 x : 0 ≤ c.x ∧ c.x ≤ 255
 y : 0 ≤ c.y ∧ c.y ≤ 255
 k : -1 ≤ c.k ∧ c.k < 64
 ca : c.m.ca = true → sdC (p 78) c.m = 0 ∨ sdC (p 78) c.m = 1
theorem mkZ_rng' {c : Int} (k : Int) (hc : 0 ≤ c) : 0 ≤ mkZ c k ∧ mkZ c k ≤ 255 := by
 cases h : mkB c k
 ·rw [mkZ_no h]; omega
 ·rw [mkZ_yes h]; have := mkB_true.1 h; omega
theorem arr_rng {p : Nat → Int} {c : Ch} (h : ChR p c) : 0 ≤ arrZ p c ∧ arrZ p c ≤ 255 := by
 unfold arrZ
 cases c.m.pr == 0
 ·exact mkZ_rng' _ (by rcases h.turn with e | e <;> omega)
 ·exact h.x
theorem af_arr (b : Nat) (p : Nat → Int) (c : Ch) (w : World) (hC : CH w b p c) (hR : ChR p c) : Calls Tryz.prog 131 #[.pointer (some ⟨b, 0, none⟩)] w (U8L (arrZ p c) w) := by
 have HC := H_ hC
 have HM := H_ hR.m
 have HR := H_ hR
 have hx := hR.x
 have hy := hR.y
 have hpr := hR.m.pr
 have ht := hR.turn
 have hpn := pro_lt hR.wf
 have HE := H_ (pro_eq hR.wf)
 clear hC hR
 have HB := H_ (Below.refl w.heap.size w)
 unfold arrZ
 cases g : (c.m.pr == 0)
 ·have gn : c.m.pr ≠ 0 := beq_eq_false_iff_ne.1 g
  go_enter Tryz.func131, Tryz.ntmps131
  go_wp2_with (first
   | (refine step_get rfl 5 _ rfl b 90 rfl Tryz.underlying5 rfl (.int .u8 c.m.pr) (HC.out.pr) ?_))
  refine late_begin 12 (by kernel_rfl) ?_
  refine lw 0 rfl ?_
  simp only [Act.put, pa, pb, pc]
  refine lw 1 rfl ?_
  simp only [Act.put, pa, pb, pc]
  refine lw 2 rfl ?_
  simp only [Act.put, pa, pb, pc]
  refine lw 3 rfl ?_
  simp only [Act.put, pa, pb, pc]
  refine lv 4 rfl ⟨.int .u8 (p 78), fun w' hl => (run_get 5 _ rfl b 78 rfl Tryz.underlying5 rfl (.int .u8 (p 78)) ((HC.out.later hl).cell 78 (by decide))), ?_⟩
  simp only [Act.put, pa, pb, pc]
  refine lw 5 rfl ?_
  simp only [Act.put, pa, pb, pc]
  refine lw 6 rfl ?_
  simp only [Act.put, pa, pb, pc]
  refine lw 7 rfl ?_
  simp only [Act.put, pa, pb, pc]
  refine lw 8 rfl ?_
  simp only [Act.put, pa, pb, pc]
  refine lv 9 rfl ⟨.int .u8 c.m.pr, fun w' hl => (run_get 5 _ rfl b 90 rfl Tryz.underlying5 rfl (.int .u8 c.m.pr) ((HC.out.later hl).pr)), ?_⟩
  simp only [Act.put, pa, pb, pc]
  refine l1 10 rfl fun wn hl K hK => ?_
  have HC := H_ (HC.out.later hl); have HB := H_ (below_on HB.out hl); clear hl
  refine we ?_
  refine (mk_any (p 78) c.m.pr _ (by omega) (by omega)).mono ?_; rintro e wm ⟨rfl, rfl⟩; refine ⟨_, rfl, ?_⟩
  refine hK.out _ _ (Later.refl _) ?_
  clear hK K
  simp only [Act.put, pa, pb, pc]
  refine lw 11 rfl ?_
  simp only [Act.put, pa, pb, pc]
  refine late_end (by kernel_rfl) (fun wn hl => ?_)
  have HC := H_ (HC.out.later hl); have HB := H_ (below_on HB.out hl); clear hl
  go_wp2_with fail
  go_ret
  exact ⟨rfl, HB.out⟩
 ·have gn : c.m.pr = 0 := eq_of_beq g
  go_enter Tryz.func131, Tryz.ntmps131
  go_wp2_with (first
   | (refine step_get rfl 5 _ rfl b 90 rfl Tryz.underlying5 rfl (.int .u8 c.m.pr) (HC.out.pr) ?_)
   | (refine step_get rfl 5 _ rfl b 93 rfl Tryz.underlying5 rfl (.int .u8 c.x) (HC.out.x) ?_))
  go_ret
  exact ⟨rfl, HB.out⟩
theorem af_kept (b : Nat) (p : Nat → Int) (c : Ch) (w : World) (hC : CH w b p c) (hR : ChR p c) : Calls Tryz.prog 134 #[.pointer (some ⟨b, 0, none⟩)] w (U8L (kepZ p c) w) := by
 have HC := H_ hC
 have HM := H_ hR.m
 have HR := H_ hR
 have hx := hR.x
 have hy := hR.y
 have hpr := hR.m.pr
 have ht := hR.turn
 have hpn := pro_lt hR.wf
 have HE := H_ (pro_eq hR.wf)
 clear hC hR
 have HB := H_ (Below.refl w.heap.size w)
 unfold kepZ
 have h3 := hpn
 cases g : (c.y == 0)
 ·have gn : c.y ≠ 0 := beq_eq_false_iff_ne.1 g
  cases g2 : hasN (proN p) c.k
  ·go_enter Tryz.func134, Tryz.ntmps134
   go_wp2_with fail
   refine late_begin 17 (by kernel_rfl) ?_
   refine lw 0 rfl ?_
   simp only [Act.put, pa, pb, pc]
   refine lw 1 rfl ?_
   simp only [Act.put, pa, pb, pc]
   refine lw 2 rfl ?_
   simp only [Act.put, pa, pb, pc]
   refine lv 3 rfl ⟨.int .u8 c.y, fun w' hl => (run_get 5 _ rfl b 94 rfl Tryz.underlying5 rfl (.int .u8 c.y) ((HC.out.later hl).y)), ?_⟩
   simp only [Act.put, pa, pb, pc]
   refine lv 4 rfl ⟨.bool true, fun w' hl => ?_, ?_⟩
   ·(go_simp; try simp [gn])
   simp only [Act.put, pa, pb, pc]
   refine lw 5 rfl ?_
   simp only [Act.put, pa, pb, pc]
   refine lw 6 rfl ?_
   simp only [Act.put, pa, pb, pc]
   refine lw 7 rfl ?_
   simp only [Act.put, pa, pb, pc]
   refine lw 8 rfl ?_
   simp only [Act.put, pa, pb, pc]
   refine lw 9 rfl ?_
   simp only [Act.put, pa, pb, pc]
   refine lv 10 rfl ⟨.int .u64 ((proN p : Nat) : Int), fun w' hl => (run_get 23 _ rfl b 65 rfl Tryz.underlying23 rfl (.int .u64 ((proN p : Nat) : Int)) (((HC.out.later hl).cell 65 (by decide)).trans (by rw [HE.out]; rfl))), ?_⟩
   simp only [Act.put, pa, pb, pc]
   refine lw 11 rfl ?_
   simp only [Act.put, pa, pb, pc]
   refine lw 12 rfl ?_
   simp only [Act.put, pa, pb, pc]
   refine lw 13 rfl ?_
   simp only [Act.put, pa, pb, pc]
   refine lv 14 rfl ⟨.int .i64 c.k, fun w' hl => (run_get 3 _ rfl b 95 rfl Tryz.underlying3 rfl (.int .i64 c.k) ((HC.out.later hl).k)), ?_⟩
   simp only [Act.put, pa, pb, pc]
   refine l1 15 rfl fun wn hl K hK => ?_
   have HC := H_ (HC.out.later hl); have HB := H_ (below_on HB.out hl); clear hl
   refine we ?_
   refine (has_any _ c.k _ hpn).mono ?_; rintro e wm ⟨rfl, rfl⟩; refine ⟨_, rfl, ?_⟩
   rw [g2]
   refine hK.out _ _ (Later.refl _) ?_
   clear hK K
   simp only [Act.put, pa, pb, pc]
   refine lw 16 rfl ?_
   simp only [Act.put, pa, pb, pc]
   refine late_end (by kernel_rfl) (fun wn hl => ?_)
   have HC := H_ (HC.out.later hl); have HB := H_ (below_on HB.out hl); clear hl
   go_wp2_with (first
   | (refine step_get rfl 5 _ rfl b 94 rfl Tryz.underlying5 rfl (.int .u8 c.y) (HC.out.y) ?_)
   | (go_at_call 138; refine (knd_any _ _ (by omega) (by omega)).mono ?_; rintro e w3 ⟨rfl, rfl⟩))
   go_ret
   exact ⟨rfl, HB.out⟩
  ·go_enter Tryz.func134, Tryz.ntmps134
   go_wp2_with fail
   refine late_begin 17 (by kernel_rfl) ?_
   refine lw 0 rfl ?_
   simp only [Act.put, pa, pb, pc]
   refine lw 1 rfl ?_
   simp only [Act.put, pa, pb, pc]
   refine lw 2 rfl ?_
   simp only [Act.put, pa, pb, pc]
   refine lv 3 rfl ⟨.int .u8 c.y, fun w' hl => (run_get 5 _ rfl b 94 rfl Tryz.underlying5 rfl (.int .u8 c.y) ((HC.out.later hl).y)), ?_⟩
   simp only [Act.put, pa, pb, pc]
   refine lv 4 rfl ⟨.bool true, fun w' hl => ?_, ?_⟩
   ·(go_simp; try simp [gn])
   simp only [Act.put, pa, pb, pc]
   refine lw 5 rfl ?_
   simp only [Act.put, pa, pb, pc]
   refine lw 6 rfl ?_
   simp only [Act.put, pa, pb, pc]
   refine lw 7 rfl ?_
   simp only [Act.put, pa, pb, pc]
   refine lw 8 rfl ?_
   simp only [Act.put, pa, pb, pc]
   refine lw 9 rfl ?_
   simp only [Act.put, pa, pb, pc]
   refine lv 10 rfl ⟨.int .u64 ((proN p : Nat) : Int), fun w' hl => (run_get 23 _ rfl b 65 rfl Tryz.underlying23 rfl (.int .u64 ((proN p : Nat) : Int)) (((HC.out.later hl).cell 65 (by decide)).trans (by rw [HE.out]; rfl))), ?_⟩
   simp only [Act.put, pa, pb, pc]
   refine lw 11 rfl ?_
   simp only [Act.put, pa, pb, pc]
   refine lw 12 rfl ?_
   simp only [Act.put, pa, pb, pc]
   refine lw 13 rfl ?_
   simp only [Act.put, pa, pb, pc]
   refine lv 14 rfl ⟨.int .i64 c.k, fun w' hl => (run_get 3 _ rfl b 95 rfl Tryz.underlying3 rfl (.int .i64 c.k) ((HC.out.later hl).k)), ?_⟩
   simp only [Act.put, pa, pb, pc]
   refine l1 15 rfl fun wn hl K hK => ?_
   have HC := H_ (HC.out.later hl); have HB := H_ (below_on HB.out hl); clear hl
   refine we ?_
   refine (has_any _ c.k _ hpn).mono ?_; rintro e wm ⟨rfl, rfl⟩; refine ⟨_, rfl, ?_⟩
   rw [g2]
   refine hK.out _ _ (Later.refl _) ?_
   clear hK K
   simp only [Act.put, pa, pb, pc]
   refine lw 16 rfl ?_
   simp only [Act.put, pa, pb, pc]
   refine late_end (by kernel_rfl) (fun wn hl => ?_)
   have HC := H_ (HC.out.later hl); have HB := H_ (below_on HB.out hl); clear hl
   go_wp2_with fail
   go_ret
   exact ⟨rfl, HB.out⟩
 ·have gn : c.y = 0 := eq_of_beq g
  go_enter Tryz.func134, Tryz.ntmps134
  go_wp2_with fail
  refine late_begin 17 (by kernel_rfl) ?_
  refine lw 0 rfl ?_
  simp only [Act.put, pa, pb, pc]
  refine lw 1 rfl ?_
  simp only [Act.put, pa, pb, pc]
  refine lw 2 rfl ?_
  simp only [Act.put, pa, pb, pc]
  refine lv 3 rfl ⟨.int .u8 c.y, fun w' hl => (run_get 5 _ rfl b 94 rfl Tryz.underlying5 rfl (.int .u8 c.y) ((HC.out.later hl).y)), ?_⟩
  simp only [Act.put, pa, pb, pc]
  refine lv 4 rfl ⟨.bool false, fun w' hl => ?_, ?_⟩
  ·(go_simp; try simp [gn])
  simp only [Act.put, pa, pb, pc]
  refine lw 5 rfl ?_
  simp only [Act.put, pa, pb, pc]
  refine lo 6 rfl ?_
  simp only [Act.put, pa, pb, pc]
  refine lo 7 rfl ?_
  simp only [Act.put, pa, pb, pc]
  refine lo 8 rfl ?_
  simp only [Act.put, pa, pb, pc]
  refine lo 9 rfl ?_
  simp only [Act.put, pa, pb, pc]
  refine lo 10 rfl ?_
  simp only [Act.put, pa, pb, pc]
  refine lo 11 rfl ?_
  simp only [Act.put, pa, pb, pc]
  refine lo 12 rfl ?_
  simp only [Act.put, pa, pb, pc]
  refine lo 13 rfl ?_
  simp only [Act.put, pa, pb, pc]
  refine lo 14 rfl ?_
  simp only [Act.put, pa, pb, pc]
  refine lo 15 rfl ?_
  simp only [Act.put, pa, pb, pc]
  refine lw 16 rfl ?_
  simp only [Act.put, pa, pb, pc]
  refine late_end (by kernel_rfl) (fun wn hl => ?_)
  have HC := H_ (HC.out.later hl); have HB := H_ (below_on HB.out hl); clear hl
  go_wp2_with (first
   | (refine step_get rfl 5 _ rfl b 94 rfl Tryz.underlying5 rfl (.int .u8 c.y) (HC.out.y) ?_)
   | (go_at_call 138; refine (knd_any _ _ (by omega) (by omega)).mono ?_; rintro e w3 ⟨rfl, rfl⟩))
  go_ret
  exact ⟨by simp only [gn]; rfl, HB.out⟩
theorem WfP.up {p : Nat → Int} (h : WfP p) (i : Nat) (v : Int) (hv : (Lit.int (kAt i) v).wf = true) : WfP (upd p i v) := fun j hj => by
 by_cases e : j = i
 ·subst e; rw [upd_same]; exact hv
 ·rw [upd_other _ _ _ _ e]; exact h j hj
theorem WfP.prU {p : Nat → Int} (h : WfP p) {n : Nat} (hn : n < W64) : WfP (prU p n) := h.up 65 _ (by
 have e : kAt 65 = .u64 := rfl
 have a : IntKind.u64.min = 0 := by decide
 have b : IntKind.u64.max = 18446744073709551615 := by decide
 have hn : n < 18446744073709551616 := hn
 rw [e]; exact af_wf ⟨by rw [a]; omega, by rw [b]; omega⟩)
theorem WfP.unm {p : Nat → Int} (h : WfP p) (s : Int) : WfP (unmA p s) := h.prU (clearN_lt (pro_lt h) s)
theorem WfP.mark {p : Nat → Int} (h : WfP p) (s : Int) : WfP (markA p s) := h.prU (putN_lt (pro_lt h) s)
theorem WfP.putA {p : Nat → Int} (h : WfP p) (s x : Int) (hx : 0 ≤ x ∧ x ≤ 255) : WfP (putP p s x) := by
 cases g : putB s x
 ·rw [putP_no g]; exact h
 ·have hs : sq s = true := by unfold putB at g; rw [Bool.and_eq_true] at g; exact g.1
  obtain ⟨n, hn, rfl⟩ := nat_of_sq hs
  rw [putP_yes g]
  refine h.up _ _ ?_
  rw [kAt_board (Nat.zero_le _) hn]
  have a : IntKind.u8.min = 0 := by decide
  have b : IntKind.u8.max = 255 := by decide
  exact af_wf ⟨by rw [a]; omega, by rw [b]; omega⟩
theorem putP_78 (p : Nat → Int) (s x : Int) : putP p s x 78 = p 78 := putP_out (Or.inr (by decide))
theorem prU_78 (p : Nat → Int) (n : Nat) : prU p n 78 = p 78 := upd_other _ _ _ _ (by decide)
theorem ChR.to {p q : Nat → Int} {c : Ch} (h : ChR p c) (hw : WfP q) (e : q 78 = p 78) : ChR q c := ⟨hw, by rw [e]; exact h.turn, h.m, h.f, h.t, h.x, h.y, h.k, by rw [e]; exact h.ca⟩
theorem ChR.put {p : Nat → Int} {c : Ch} (h : ChR p c) (s x : Int) (hx : 0 ≤ x ∧ x ≤ 255) : ChR (putP p s x) c := h.to (h.wf.putA s x hx) (putP_78 _ _ _)
theorem ChR.pr {p : Nat → Int} {c : Ch} (h : ChR p c) {n : Nat} (hn : n < W64) : ChR (prU p n) c := h.to (h.wf.prU hn) (prU_78 _ _)
theorem goalsK {p : Nat → Int} {m : Mv} {n : Nat} {K R : Int} (hK : hmC (p 78) + gkC (n : Int) = K) (hR : hmC (p 78) + grC (n : Int) = R) (hn : n < 2) (w : World) (hm : FitV m) (hs : sdC (p 78) m = (n : Int)) (hG : TabGl w) :
  Calls Tryz.prog 158 #[.agg (posA p), .agg (mvA m)] w (GoalL K R true w) := hK ▸ hR ▸ cs_goals p m n hn w hm hs hG
theorem sd_nat {p : Nat → Int} {c : Ch} (h : ChR p c) (g : c.m.ca = true) : ∃ n : Nat, n < 2 ∧ sdC (p 78) c.m = (n : Int) := by
 rcases h.ca g with e | e
 ·exact ⟨0, by decide, e⟩
 ·exact ⟨1, by decide, e⟩
theorem cas_is {p : Nat → Int} {c : Ch} {n : Nat} {K R : Int} (hs : sdC (p 78) c.m = (n : Int)) (hK : hmC (p 78) + gkC (n : Int) = K) (hR : hmC (p 78) + grC (n : Int) = R) : kgA p c = K ∧ rkA p c = R := by
 unfold kgA rkA sdA; rw [hs]; exact ⟨hK, hR⟩
theorem af_castle (b : Nat) (p : Nat → Int) (c : Ch) (w : World) (hC : CH w b p c) (hR : ChR p c) (hT : AfT b w) (hca : c.m.ca = true) : Calls Tryz.prog 126 #[.pointer (some ⟨b, 0, none⟩)] w (AfL b (casA p c) c w) := by
 have HC := H_ hC
 have HM := H_ hR.m
 have HR := H_ hR
 have hx := hR.x
 have hy := hR.y
 have hpr := hR.m.pr
 have ht := hR.turn
 have hpn := pro_lt hR.wf
 have HE := H_ (pro_eq hR.wf)
 clear hC hR
 have HT := H_ hT
 clear hT
 have hmk := mkZ_rng' (c := p 78) 4 (by omega)
 obtain ⟨n, hn, hs⟩ := sd_nat HR.out hca
 obtain ⟨K, hK⟩ : ∃ K, hmC (p 78) + gkC (n : Int) = K := ⟨_, rfl⟩
 obtain ⟨R, hRk⟩ : ∃ R, hmC (p 78) + grC (n : Int) = R := ⟨_, rfl⟩
 have HN := H_ hn
 have HKR := H_ (cas_is hs hK hRk)
 have HS := H_ hs
 have HKe := H_ hK
 have HRe := H_ hRk
 clear hn hs hK hRk hca
 have HB := H_ (Kept.refl (fun k => k = b) w)
 go_enter Tryz.func126, Tryz.ntmps126
 go_wp2_with fail
 refine late_begin 16 (by kernel_rfl) ?_
 refine lw 0 rfl ?_
 simp only [Act.put, pa, pb, pc]
 refine lw 1 rfl ?_
 simp only [Act.put, pa, pb, pc]
 refine lw 2 rfl ?_
 simp only [Act.put, pa, pb, pc]
 refine lv 3 rfl ⟨.agg (posA (p)), fun w' hl => (run_chp _ rfl b rfl (p) c (HC.out.later hl)), ?_⟩
 simp only [Act.put, pa, pb, pc]
 refine lw 4 rfl ?_
 simp only [Act.put, pa, pb, pc]
 refine lw 5 rfl ?_
 simp only [Act.put, pa, pb, pc]
 refine lw 6 rfl ?_
 simp only [Act.put, pa, pb, pc]
 refine lv 7 rfl ⟨.agg (mvA c.m), fun w' hl => (run_chm _ rfl b rfl (p) c (HC.out.later hl)), ?_⟩
 simp only [Act.put, pa, pb, pc]
 refine l1 8 rfl fun wn hl K hK => ?_
 have HC := H_ (HC.out.later hl); have HB := H_ (kept_on HB.out hl); clear hl
 refine we ?_
 refine (goalsK HKe.out HRe.out HN.out _ HM.out HS.out (HT.out.at HB.out).gl).mono ?_; rintro e wm ⟨rfl, hb⟩; refine ⟨_, rfl, ?_⟩
 refine hK.out _ _ hb ?_
 have HC := H_ (HC.out.later hb); have HB := H_ (kept_on HB.out hb); clear hb
 clear hK K
 simp only [Act.put, pa, pb, pc]
 refine lw 9 rfl ?_
 simp only [Act.put, pa, pb, pc]
 refine lw 10 rfl ?_
 simp only [Act.put, pa, pb, pc]
 refine lw 11 rfl ?_
 simp only [Act.put, pa, pb, pc]
 refine lw 12 rfl ?_
 simp only [Act.put, pa, pb, pc]
 refine lw 13 rfl ?_
 simp only [Act.put, pa, pb, pc]
 refine lw 14 rfl ?_
 simp only [Act.put, pa, pb, pc]
 refine lw 15 rfl ?_
 simp only [Act.put, pa, pb, pc]
 refine late_end (by kernel_rfl) (fun wn hl => ?_)
 have HC := H_ (HC.out.later hl); have HB := H_ (kept_on HB.out hl); clear hl
 go_wp2_with (first
   | (go_at_call 130; refine (af_from b _ c _ HC.out HM.out).mono ?_; rintro e w3 ⟨rfl, rfl⟩)
   | (go_at_call 129; refine (af_to b _ c _ HC.out HM.out).mono ?_; rintro e w3 ⟨rfl, rfl⟩)
   | (go_at_call 128; refine (af_put b _ c _ _ _ HC.out (by omega) (by omega)).mono ?_; rintro e w3 ⟨⟨v, rfl⟩, hc, hk⟩; have HC := H_ hc; have HB := H_ (HB.out.trans hk); clear hc hk)
   | (refine step_get rfl 5 _ rfl b 93 rfl Tryz.underlying5 rfl (.int .u8 c.x) (HC.out.x) ?_)
   | (refine step_get rfl 5 _ rfl b 78 rfl Tryz.underlying5 rfl (.int .u8 (p 78)) ((HC.out.cell 78 (by decide)).trans (by rw [putP_78, putP_78, putP_78]; rfl)) ?_)
   | (go_at_call 63; refine (mk_any _ _ _ (by omega) (by omega)).mono ?_; rintro e w3 ⟨rfl, rfl⟩))
 refine bodyPost_end (results_none rfl _ _ _) rfl ?_
 exact ⟨⟨_, rfl⟩, by unfold casA; rw [HKR.out.1, HKR.out.2]; exact HC.out, HB.out⟩
theorem af_carR (b : Nat) (p : Nat → Int) (c : Ch) (w : World) (hC : CH w b p c) (hR : ChR p c) (hT : AfT b w) (hca : c.m.ca = true) : Calls Tryz.prog 132 #[.pointer (some ⟨b, 0, none⟩)] w (AfL b (carR p c) c w) := by
 have HC := H_ hC
 have HM := H_ hR.m
 have HR := H_ hR
 have hx := hR.x
 have hy := hR.y
 have hpr := hR.m.pr
 have ht := hR.turn
 have hpn := pro_lt hR.wf
 have HE := H_ (pro_eq hR.wf)
 clear hC hR
 have HT := H_ hT
 clear hT
 obtain ⟨n, hn, hs⟩ := sd_nat HR.out hca
 obtain ⟨K, hK⟩ : ∃ K, hmC (p 78) + gkC (n : Int) = K := ⟨_, rfl⟩
 obtain ⟨R, hRk⟩ : ∃ R, hmC (p 78) + grC (n : Int) = R := ⟨_, rfl⟩
 have HN := H_ hn
 have HKR := H_ (cas_is hs hK hRk)
 have HS := H_ hs
 have HKe := H_ hK
 have HRe := H_ hRk
 clear hn hs hK hRk hca
 have HB := H_ (Kept.refl (fun k => k = b) w)
 unfold carR
 cases g : hasN (proN p) c.m.t
 ·go_enter Tryz.func132, Tryz.ntmps132
  go_wp2_with fail
  refine late_begin 16 (by kernel_rfl) ?_
  refine lw 0 rfl ?_
  simp only [Act.put, pa, pb, pc]
  refine lw 1 rfl ?_
  simp only [Act.put, pa, pb, pc]
  refine lw 2 rfl ?_
  simp only [Act.put, pa, pb, pc]
  refine lv 3 rfl ⟨.agg (posA (p)), fun w' hl => (run_chp _ rfl b rfl (p) c (HC.out.later hl)), ?_⟩
  simp only [Act.put, pa, pb, pc]
  refine lw 4 rfl ?_
  simp only [Act.put, pa, pb, pc]
  refine lw 5 rfl ?_
  simp only [Act.put, pa, pb, pc]
  refine lw 6 rfl ?_
  simp only [Act.put, pa, pb, pc]
  refine lv 7 rfl ⟨.agg (mvA c.m), fun w' hl => (run_chm _ rfl b rfl (p) c (HC.out.later hl)), ?_⟩
  simp only [Act.put, pa, pb, pc]
  refine l1 8 rfl fun wn hl K hK => ?_
  have HC := H_ (HC.out.later hl); have HB := H_ (kept_on HB.out hl); clear hl
  refine we ?_
  refine (goalsK HKe.out HRe.out HN.out _ HM.out HS.out (HT.out.at HB.out).gl).mono ?_; rintro e wm ⟨rfl, hb⟩; refine ⟨_, rfl, ?_⟩
  refine hK.out _ _ hb ?_
  have HC := H_ (HC.out.later hb); have HB := H_ (kept_on HB.out hb); clear hb
  clear hK K
  simp only [Act.put, pa, pb, pc]
  refine lw 9 rfl ?_
  simp only [Act.put, pa, pb, pc]
  refine lw 10 rfl ?_
  simp only [Act.put, pa, pb, pc]
  refine lw 11 rfl ?_
  simp only [Act.put, pa, pb, pc]
  refine lw 12 rfl ?_
  simp only [Act.put, pa, pb, pc]
  refine lw 13 rfl ?_
  simp only [Act.put, pa, pb, pc]
  refine lw 14 rfl ?_
  simp only [Act.put, pa, pb, pc]
  refine lw 15 rfl ?_
  simp only [Act.put, pa, pb, pc]
  refine late_end (by kernel_rfl) (fun wn hl => ?_)
  have HC := H_ (HC.out.later hl); have HB := H_ (kept_on HB.out hl); clear hl
  go_wp2_with fail
  refine late_begin 8 (by kernel_rfl) ?_
  refine lw 0 rfl ?_
  simp only [Act.put, pa, pb, pc]
  refine lw 1 rfl ?_
  simp only [Act.put, pa, pb, pc]
  refine lw 2 rfl ?_
  simp only [Act.put, pa, pb, pc]
  refine lw 3 rfl ?_
  simp only [Act.put, pa, pb, pc]
  refine lv 4 rfl ⟨.int .u64 ((proN p : Nat) : Int), fun w' hl => (run_get 23 _ rfl b 65 rfl Tryz.underlying23 rfl (.int .u64 ((proN p : Nat) : Int)) (((HC.out.later hl).cell 65 (by decide)).trans (by rw [HE.out]; rfl))), ?_⟩
  simp only [Act.put, pa, pb, pc]
  refine lw 5 rfl ?_
  simp only [Act.put, pa, pb, pc]
  refine l1 6 rfl fun wn hl K hK => ?_
  have HC := H_ (HC.out.later hl); have HB := H_ (kept_on HB.out hl); clear hl
  refine we ?_
  refine (af_to b _ c _ HC.out HM.out).mono ?_; rintro e wm ⟨rfl, rfl⟩; refine ⟨_, rfl, ?_⟩
  refine hK.out _ _ (Later.refl _) ?_
  clear hK K
  simp only [Act.put, pa, pb, pc]
  refine l1 7 rfl fun wn hl K hK => ?_
  have HC := H_ (HC.out.later hl); have HB := H_ (kept_on HB.out hl); clear hl
  refine we ?_
  refine (has_any _ c.m.t _ hpn).mono ?_; rintro e wm ⟨rfl, rfl⟩; refine ⟨_, rfl, ?_⟩
  rw [g]
  refine hK.out _ _ (Later.refl _) ?_
  clear hK K
  simp only [Act.put, pa, pb, pc]
  refine late_end (by kernel_rfl) (fun wn hl => ?_)
  have HC := H_ (HC.out.later hl); have HB := H_ (kept_on HB.out hl); clear hl
  go_wp2_with fail
  refine bodyPost_end (results_none rfl _ _ _) rfl ?_
  exact ⟨⟨_, rfl⟩, HC.out, HB.out⟩
 ·go_enter Tryz.func132, Tryz.ntmps132
  go_wp2_with fail
  refine late_begin 16 (by kernel_rfl) ?_
  refine lw 0 rfl ?_
  simp only [Act.put, pa, pb, pc]
  refine lw 1 rfl ?_
  simp only [Act.put, pa, pb, pc]
  refine lw 2 rfl ?_
  simp only [Act.put, pa, pb, pc]
  refine lv 3 rfl ⟨.agg (posA (p)), fun w' hl => (run_chp _ rfl b rfl (p) c (HC.out.later hl)), ?_⟩
  simp only [Act.put, pa, pb, pc]
  refine lw 4 rfl ?_
  simp only [Act.put, pa, pb, pc]
  refine lw 5 rfl ?_
  simp only [Act.put, pa, pb, pc]
  refine lw 6 rfl ?_
  simp only [Act.put, pa, pb, pc]
  refine lv 7 rfl ⟨.agg (mvA c.m), fun w' hl => (run_chm _ rfl b rfl (p) c (HC.out.later hl)), ?_⟩
  simp only [Act.put, pa, pb, pc]
  refine l1 8 rfl fun wn hl K hK => ?_
  have HC := H_ (HC.out.later hl); have HB := H_ (kept_on HB.out hl); clear hl
  refine we ?_
  refine (goalsK HKe.out HRe.out HN.out _ HM.out HS.out (HT.out.at HB.out).gl).mono ?_; rintro e wm ⟨rfl, hb⟩; refine ⟨_, rfl, ?_⟩
  refine hK.out _ _ hb ?_
  have HC := H_ (HC.out.later hb); have HB := H_ (kept_on HB.out hb); clear hb
  clear hK K
  simp only [Act.put, pa, pb, pc]
  refine lw 9 rfl ?_
  simp only [Act.put, pa, pb, pc]
  refine lw 10 rfl ?_
  simp only [Act.put, pa, pb, pc]
  refine lw 11 rfl ?_
  simp only [Act.put, pa, pb, pc]
  refine lw 12 rfl ?_
  simp only [Act.put, pa, pb, pc]
  refine lw 13 rfl ?_
  simp only [Act.put, pa, pb, pc]
  refine lw 14 rfl ?_
  simp only [Act.put, pa, pb, pc]
  refine lw 15 rfl ?_
  simp only [Act.put, pa, pb, pc]
  refine late_end (by kernel_rfl) (fun wn hl => ?_)
  have HC := H_ (HC.out.later hl); have HB := H_ (kept_on HB.out hl); clear hl
  go_wp2_with fail
  refine late_begin 8 (by kernel_rfl) ?_
  refine lw 0 rfl ?_
  simp only [Act.put, pa, pb, pc]
  refine lw 1 rfl ?_
  simp only [Act.put, pa, pb, pc]
  refine lw 2 rfl ?_
  simp only [Act.put, pa, pb, pc]
  refine lw 3 rfl ?_
  simp only [Act.put, pa, pb, pc]
  refine lv 4 rfl ⟨.int .u64 ((proN p : Nat) : Int), fun w' hl => (run_get 23 _ rfl b 65 rfl Tryz.underlying23 rfl (.int .u64 ((proN p : Nat) : Int)) (((HC.out.later hl).cell 65 (by decide)).trans (by rw [HE.out]; rfl))), ?_⟩
  simp only [Act.put, pa, pb, pc]
  refine lw 5 rfl ?_
  simp only [Act.put, pa, pb, pc]
  refine l1 6 rfl fun wn hl K hK => ?_
  have HC := H_ (HC.out.later hl); have HB := H_ (kept_on HB.out hl); clear hl
  refine we ?_
  refine (af_to b _ c _ HC.out HM.out).mono ?_; rintro e wm ⟨rfl, rfl⟩; refine ⟨_, rfl, ?_⟩
  refine hK.out _ _ (Later.refl _) ?_
  clear hK K
  simp only [Act.put, pa, pb, pc]
  refine l1 7 rfl fun wn hl K hK => ?_
  have HC := H_ (HC.out.later hl); have HB := H_ (kept_on HB.out hl); clear hl
  refine we ?_
  refine (has_any _ c.m.t _ hpn).mono ?_; rintro e wm ⟨rfl, rfl⟩; refine ⟨_, rfl, ?_⟩
  rw [g]
  refine hK.out _ _ (Later.refl _) ?_
  clear hK K
  simp only [Act.put, pa, pb, pc]
  refine late_end (by kernel_rfl) (fun wn hl => ?_)
  have HC := H_ (HC.out.later hl); have HB := H_ (kept_on HB.out hl); clear hl
  go_wp2_with (first
   | (go_at_call 129; refine (af_to b _ c _ HC.out HM.out).mono ?_; rintro e w3 ⟨rfl, rfl⟩)
   | (go_at_call 196; refine (af_unm b _ c _ _ HC.out HR.out.wf).mono ?_; rintro e w3 ⟨⟨v, rfl⟩, hc, hk⟩; have HC := H_ hc; have HB := H_ (HB.out.trans hk); clear hc hk)
   | (go_at_call 197; refine (af_mark b _ c _ _ HC.out (HR.out.wf.unm _)).mono ?_; rintro e w3 ⟨⟨v, rfl⟩, hc, hk⟩; have HC := H_ hc; have HB := H_ (HB.out.trans hk); clear hc hk))
  refine bodyPost_end (results_none rfl _ _ _) rfl ?_
  exact ⟨⟨_, rfl⟩, by rw [HKR.out.2]; exact HC.out, HB.out⟩
theorem af_carM (b : Nat) (p : Nat → Int) (c : Ch) (w : World) (hC : CH w b p c) (hR : ChR p c) : Calls Tryz.prog 135 #[.pointer (some ⟨b, 0, none⟩)] w (AfL b (carM p c) c w) := by
 have HC := H_ hC
 have HM := H_ hR.m
 have HR := H_ hR
 have hx := hR.x
 have hy := hR.y
 have hpr := hR.m.pr
 have ht := hR.turn
 have hpn := pro_lt hR.wf
 have HE := H_ (pro_eq hR.wf)
 clear hC hR
 obtain ⟨q, hq⟩ : ∃ q, unmA (unmA p c.k) c.m.f = q := ⟨_, rfl⟩
 have HQ := H_ (show WfP q by rw [← hq]; exact (HR.out.wf.unm _).unm _)
 have HQe := H_ hq
 have HB := H_ (Kept.refl (fun k => k = b) w)
 unfold carM
 rw [hq]
 clear hq
 cases g : hasN (proN p) c.m.f
 ·cases g2 : (c.m.pr == 0)
  ·go_enter Tryz.func135, Tryz.ntmps135
   go_wp2_with fail
   refine late_begin 17 (by kernel_rfl) ?_
   refine lw 0 rfl ?_
   simp only [Act.put, pa, pb, pc]
   refine lw 1 rfl ?_
   simp only [Act.put, pa, pb, pc]
   refine lw 2 rfl ?_
   simp only [Act.put, pa, pb, pc]
   refine lw 3 rfl ?_
   simp only [Act.put, pa, pb, pc]
   refine lv 4 rfl ⟨.int .u64 ((proN p : Nat) : Int), fun w' hl => (run_get 23 _ rfl b 65 rfl Tryz.underlying23 rfl (.int .u64 ((proN p : Nat) : Int)) (((HC.out.later hl).cell 65 (by decide)).trans (by rw [HE.out]; rfl))), ?_⟩
   simp only [Act.put, pa, pb, pc]
   refine lw 5 rfl ?_
   simp only [Act.put, pa, pb, pc]
   refine l1 6 rfl fun wn hl K hK => ?_
   have HC := H_ (HC.out.later hl); have HB := H_ (kept_on HB.out hl); clear hl
   refine we ?_
   refine (af_from b _ c _ HC.out HM.out).mono ?_; rintro e wm ⟨rfl, rfl⟩; refine ⟨_, rfl, ?_⟩
   refine hK.out _ _ (Later.refl _) ?_
   clear hK K
   simp only [Act.put, pa, pb, pc]
   refine l1 7 rfl fun wn hl K hK => ?_
   have HC := H_ (HC.out.later hl); have HB := H_ (kept_on HB.out hl); clear hl
   refine we ?_
   refine (has_any _ c.m.f _ hpn).mono ?_; rintro e wm ⟨rfl, rfl⟩; refine ⟨_, rfl, ?_⟩
   rw [g]
   refine hK.out _ _ (Later.refl _) ?_
   clear hK K
   simp only [Act.put, pa, pb, pc]
   refine lw 8 rfl ?_
   simp only [Act.put, pa, pb, pc]
   refine lw 9 rfl ?_
   simp only [Act.put, pa, pb, pc]
   refine lw 10 rfl ?_
   simp only [Act.put, pa, pb, pc]
   refine lw 11 rfl ?_
   simp only [Act.put, pa, pb, pc]
   refine lw 12 rfl ?_
   simp only [Act.put, pa, pb, pc]
   refine lv 13 rfl ⟨.int .u8 c.m.pr, fun w' hl => (run_get 5 _ rfl b 90 rfl Tryz.underlying5 rfl (.int .u8 c.m.pr) ((HC.out.later hl).pr)), ?_⟩
   simp only [Act.put, pa, pb, pc]
   refine lw 14 rfl ?_
   simp only [Act.put, pa, pb, pc]
   refine lw 15 rfl ?_
   simp only [Act.put, pa, pb, pc]
   refine lw 16 rfl ?_
   simp only [Act.put, pa, pb, pc]
   refine late_end (by kernel_rfl) (fun wn hl => ?_)
   have HC := H_ (HC.out.later hl); have HB := H_ (kept_on HB.out hl); clear hl
   go_wp2_with (first
    | (refine step_get rfl 3 _ rfl b 95 rfl Tryz.underlying3 rfl (.int .i64 c.k) (HC.out.k) ?_)
    | (go_at_call 130; refine (af_from b _ c _ HC.out HM.out).mono ?_; rintro e w3 ⟨rfl, rfl⟩)
    | (go_at_call 129; refine (af_to b _ c _ HC.out HM.out).mono ?_; rintro e w3 ⟨rfl, rfl⟩)
    | (go_at_call 196; guard_target = Go.Calls _ _ #[_, Go.Value.int _ c.k] _ _; refine (af_unm b _ c _ _ HC.out HR.out.wf).mono ?_; rintro e w3 ⟨⟨v, rfl⟩, hc, hk⟩; have HC := H_ hc; have HB := H_ (HB.out.trans hk); clear hc hk)
    | (go_at_call 196; refine (af_unm b _ c _ _ HC.out (HR.out.wf.unm _)).mono ?_; rintro e w3 ⟨⟨v, rfl⟩, hc, hk⟩; have HC := H_ hc; have HB := H_ (HB.out.trans hk); clear hc hk)
    | (go_at_call 197; rw [HQe.out] at HC; refine (af_mark b _ c _ _ HC.out HQ.out).mono ?_; rintro e w3 ⟨⟨v, rfl⟩, hc, hk⟩; have HC := H_ hc; have HB := H_ (HB.out.trans hk); clear hc hk))
   refine bodyPost_end (results_none rfl _ _ _) rfl ?_
   exact ⟨⟨_, rfl⟩, HC.out, HB.out⟩
  ·go_enter Tryz.func135, Tryz.ntmps135
   go_wp2_with fail
   refine late_begin 17 (by kernel_rfl) ?_
   refine lw 0 rfl ?_
   simp only [Act.put, pa, pb, pc]
   refine lw 1 rfl ?_
   simp only [Act.put, pa, pb, pc]
   refine lw 2 rfl ?_
   simp only [Act.put, pa, pb, pc]
   refine lw 3 rfl ?_
   simp only [Act.put, pa, pb, pc]
   refine lv 4 rfl ⟨.int .u64 ((proN p : Nat) : Int), fun w' hl => (run_get 23 _ rfl b 65 rfl Tryz.underlying23 rfl (.int .u64 ((proN p : Nat) : Int)) (((HC.out.later hl).cell 65 (by decide)).trans (by rw [HE.out]; rfl))), ?_⟩
   simp only [Act.put, pa, pb, pc]
   refine lw 5 rfl ?_
   simp only [Act.put, pa, pb, pc]
   refine l1 6 rfl fun wn hl K hK => ?_
   have HC := H_ (HC.out.later hl); have HB := H_ (kept_on HB.out hl); clear hl
   refine we ?_
   refine (af_from b _ c _ HC.out HM.out).mono ?_; rintro e wm ⟨rfl, rfl⟩; refine ⟨_, rfl, ?_⟩
   refine hK.out _ _ (Later.refl _) ?_
   clear hK K
   simp only [Act.put, pa, pb, pc]
   refine l1 7 rfl fun wn hl K hK => ?_
   have HC := H_ (HC.out.later hl); have HB := H_ (kept_on HB.out hl); clear hl
   refine we ?_
   refine (has_any _ c.m.f _ hpn).mono ?_; rintro e wm ⟨rfl, rfl⟩; refine ⟨_, rfl, ?_⟩
   rw [g]
   refine hK.out _ _ (Later.refl _) ?_
   clear hK K
   simp only [Act.put, pa, pb, pc]
   refine lw 8 rfl ?_
   simp only [Act.put, pa, pb, pc]
   refine lw 9 rfl ?_
   simp only [Act.put, pa, pb, pc]
   refine lw 10 rfl ?_
   simp only [Act.put, pa, pb, pc]
   refine lw 11 rfl ?_
   simp only [Act.put, pa, pb, pc]
   refine lw 12 rfl ?_
   simp only [Act.put, pa, pb, pc]
   refine lv 13 rfl ⟨.int .u8 c.m.pr, fun w' hl => (run_get 5 _ rfl b 90 rfl Tryz.underlying5 rfl (.int .u8 c.m.pr) ((HC.out.later hl).pr)), ?_⟩
   simp only [Act.put, pa, pb, pc]
   refine lw 14 rfl ?_
   simp only [Act.put, pa, pb, pc]
   refine lw 15 rfl ?_
   simp only [Act.put, pa, pb, pc]
   refine lw 16 rfl ?_
   simp only [Act.put, pa, pb, pc]
   refine late_end (by kernel_rfl) (fun wn hl => ?_)
   have HC := H_ (HC.out.later hl); have HB := H_ (kept_on HB.out hl); clear hl
   go_wp2_with (first
    | (refine step_get rfl 3 _ rfl b 95 rfl Tryz.underlying3 rfl (.int .i64 c.k) (HC.out.k) ?_)
    | (go_at_call 130; refine (af_from b _ c _ HC.out HM.out).mono ?_; rintro e w3 ⟨rfl, rfl⟩)
    | (go_at_call 129; refine (af_to b _ c _ HC.out HM.out).mono ?_; rintro e w3 ⟨rfl, rfl⟩)
    | (go_at_call 196; guard_target = Go.Calls _ _ #[_, Go.Value.int _ c.k] _ _; refine (af_unm b _ c _ _ HC.out HR.out.wf).mono ?_; rintro e w3 ⟨⟨v, rfl⟩, hc, hk⟩; have HC := H_ hc; have HB := H_ (HB.out.trans hk); clear hc hk)
    | (go_at_call 196; refine (af_unm b _ c _ _ HC.out (HR.out.wf.unm _)).mono ?_; rintro e w3 ⟨⟨v, rfl⟩, hc, hk⟩; have HC := H_ hc; have HB := H_ (HB.out.trans hk); clear hc hk)
    | (go_at_call 197; rw [HQe.out] at HC; refine (af_mark b _ c _ _ HC.out HQ.out).mono ?_; rintro e w3 ⟨⟨v, rfl⟩, hc, hk⟩; have HC := H_ hc; have HB := H_ (HB.out.trans hk); clear hc hk))
   refine bodyPost_end (results_none rfl _ _ _) rfl ?_
   exact ⟨⟨_, rfl⟩, by rw [HQe.out] at HC; exact HC.out, HB.out⟩
 ·go_enter Tryz.func135, Tryz.ntmps135
  go_wp2_with fail
  refine late_begin 17 (by kernel_rfl) ?_
  refine lw 0 rfl ?_
  simp only [Act.put, pa, pb, pc]
  refine lw 1 rfl ?_
  simp only [Act.put, pa, pb, pc]
  refine lw 2 rfl ?_
  simp only [Act.put, pa, pb, pc]
  refine lw 3 rfl ?_
  simp only [Act.put, pa, pb, pc]
  refine lv 4 rfl ⟨.int .u64 ((proN p : Nat) : Int), fun w' hl => (run_get 23 _ rfl b 65 rfl Tryz.underlying23 rfl (.int .u64 ((proN p : Nat) : Int)) (((HC.out.later hl).cell 65 (by decide)).trans (by rw [HE.out]; rfl))), ?_⟩
  simp only [Act.put, pa, pb, pc]
  refine lw 5 rfl ?_
  simp only [Act.put, pa, pb, pc]
  refine l1 6 rfl fun wn hl K hK => ?_
  have HC := H_ (HC.out.later hl); have HB := H_ (kept_on HB.out hl); clear hl
  refine we ?_
  refine (af_from b _ c _ HC.out HM.out).mono ?_; rintro e wm ⟨rfl, rfl⟩; refine ⟨_, rfl, ?_⟩
  refine hK.out _ _ (Later.refl _) ?_
  clear hK K
  simp only [Act.put, pa, pb, pc]
  refine l1 7 rfl fun wn hl K hK => ?_
  have HC := H_ (HC.out.later hl); have HB := H_ (kept_on HB.out hl); clear hl
  refine we ?_
  refine (has_any _ c.m.f _ hpn).mono ?_; rintro e wm ⟨rfl, rfl⟩; refine ⟨_, rfl, ?_⟩
  rw [g]
  refine hK.out _ _ (Later.refl _) ?_
  clear hK K
  simp only [Act.put, pa, pb, pc]
  refine lw 8 rfl ?_
  simp only [Act.put, pa, pb, pc]
  refine lo 9 rfl ?_
  simp only [Act.put, pa, pb, pc]
  refine lo 10 rfl ?_
  simp only [Act.put, pa, pb, pc]
  refine lo 11 rfl ?_
  simp only [Act.put, pa, pb, pc]
  refine lo 12 rfl ?_
  simp only [Act.put, pa, pb, pc]
  refine lo 13 rfl ?_
  simp only [Act.put, pa, pb, pc]
  refine lo 14 rfl ?_
  simp only [Act.put, pa, pb, pc]
  refine lw 15 rfl ?_
  simp only [Act.put, pa, pb, pc]
  refine lw 16 rfl ?_
  simp only [Act.put, pa, pb, pc]
  refine late_end (by kernel_rfl) (fun wn hl => ?_)
  have HC := H_ (HC.out.later hl); have HB := H_ (kept_on HB.out hl); clear hl
  go_wp2_with (first
   | (refine step_get rfl 3 _ rfl b 95 rfl Tryz.underlying3 rfl (.int .i64 c.k) (HC.out.k) ?_)
   | (go_at_call 130; refine (af_from b _ c _ HC.out HM.out).mono ?_; rintro e w3 ⟨rfl, rfl⟩)
   | (go_at_call 129; refine (af_to b _ c _ HC.out HM.out).mono ?_; rintro e w3 ⟨rfl, rfl⟩)
   | (go_at_call 196; guard_target = Go.Calls _ _ #[_, Go.Value.int _ c.k] _ _; refine (af_unm b _ c _ _ HC.out HR.out.wf).mono ?_; rintro e w3 ⟨⟨v, rfl⟩, hc, hk⟩; have HC := H_ hc; have HB := H_ (HB.out.trans hk); clear hc hk)
   | (go_at_call 196; refine (af_unm b _ c _ _ HC.out (HR.out.wf.unm _)).mono ?_; rintro e w3 ⟨⟨v, rfl⟩, hc, hk⟩; have HC := H_ hc; have HB := H_ (HB.out.trans hk); clear hc hk)
   | (go_at_call 197; rw [HQe.out] at HC; refine (af_mark b _ c _ _ HC.out HQ.out).mono ?_; rintro e w3 ⟨⟨v, rfl⟩, hc, hk⟩; have HC := H_ hc; have HB := H_ (HB.out.trans hk); clear hc hk))
  refine bodyPost_end (results_none rfl _ _ _) rfl ?_
  exact ⟨⟨_, rfl⟩, HC.out, HB.out⟩
end Go.Proofs.YteblmnbagbdiiaaGreatDoor
/-
 Layer 16: contracts of the change's men, pocket.
-/
namespace Go.Proofs.YteblmnbagbdiiaaGreatDoor
open Go.RowKit Go.Shelf
set_option linter.unusedVariables false
set_option linter.unusedSimpArgs false
attribute [local go_sem] Oper.semAt_some

theorem WfP.dr {p : Nat → Int} (h : WfP p) : DrR p := by
 have u8 : ∀ i, i < 88 → kAt i = .u8 → 0 ≤ p i ∧ p i ≤ 255 := fun i hi e => by
  have := af_of (h i hi)
  rw [e] at this
  have a : IntKind.u8.min = 0 := by decide
  have b : IntKind.u8.max = 255 := by decide
  omega
 exact ⟨fun i hi => u8 _ (by omega) (kAt_board (Nat.zero_le _) hi), u8 0 (by decide) rfl, u8 78 (by decide) rfl, fun i h0 h1 => u8 i (by omega) (by unfold kAt; rw [if_neg (by omega), if_neg (by omega), if_neg (by omega)])⟩
theorem kAt_pkA {i : Nat} (h0 : 66 ≤ i) (h : i < 78) : kAt i = .u8 := by unfold kAt; rw [if_neg (by omega), if_neg (by omega), if_neg (by omega)]
theorem wf_u8A {n : Int} (h : 0 ≤ n ∧ n ≤ 255) : (Lit.int .u8 n).wf = true := by
 have a : IntKind.u8.min = 0 := by decide
 have b : IntKind.u8.max = 255 := by decide
 exact af_wf ⟨by rw [a]; omega, by rw [b]; omega⟩
theorem WfP.add {p : Nat → Int} (h : WfP p) {c : Int} (k : Int) (hc : 0 ≤ c) : WfP (addP p c k) ∧ addP p c k 78 = p 78 := by
 unfold addP
 cases g : (hasP c k && decide (p (pkJ c k) < 255))
 ·exact ⟨h, rfl⟩
 ·rw [Bool.and_eq_true, decide_eq_true_eq] at g
  have hj := pkJ_lt g.1 hc
  have hr := h.dr.pk _ (by omega) hj.2
  exact ⟨h.up _ _ (by rw [kAt_pkA (by omega) hj.2]; exact wf_u8A ⟨by omega, by omega⟩), upd_other _ _ _ _ (by omega)⟩
theorem WfP.tak {p : Nat → Int} (h : WfP p) {c : Int} (k : Int) (hc : 0 ≤ c) : WfP (takP p c k) ∧ takP p c k 78 = p 78 := by
 unfold takP
 cases g : (helC p c k == 0)
 ·have g' : helC p c k ≠ 0 := beq_eq_false_iff_ne.1 g
  have hh : hasP c k = true := by
   cases e : hasP c k
   ·exact absurd (helC_out e) g'
   ·rfl
  rw [helC_yes hh] at g'
  have hj := pkJ_lt hh hc
  have hr := h.dr.pk _ (by omega) hj.2
  exact ⟨h.up _ _ (by rw [kAt_pkA (by omega) hj.2]; exact wf_u8A ⟨by omega, by omega⟩), upd_other _ _ _ _ (by omega)⟩
 ·exact ⟨h, rfl⟩
theorem ChR.t0 {p : Nat → Int} {c : Ch} (h : ChR p c) : 0 ≤ p 78 := by rcases h.turn with e | e <;> omega
theorem ChR.mkz {p : Nat → Int} {c : Ch} (h : ChR p c) (k : Int) : 0 ≤ mkZ (p 78) k ∧ mkZ (p 78) k ≤ 255 := mkZ_rng' k (by rcases h.turn with e | e <;> omega)
theorem ChR.add {p : Nat → Int} {c : Ch} (h : ChR p c) (k : Int) : ChR (addP p (p 78) k) c := h.to (h.wf.add k h.t0).1 (h.wf.add k h.t0).2
theorem ChR.tak {p : Nat → Int} {c : Ch} (h : ChR p c) (k : Int) : ChR (takP p (p 78) k) c := h.to (h.wf.tak k h.t0).1 (h.wf.tak k h.t0).2
theorem arr_same {p q : Nat → Int} {c : Ch} (e : q 78 = p 78) : arrZ q c = arrZ p c := by unfold arrZ; rw [e]
theorem arrK {q : Nat → Int} {z : Int} {c : Ch} (e : arrZ q c = z) (b : Nat) (w : World) (hC : CH w b q c) (hR : ChR q c) : Calls Tryz.prog 131 #[.pointer (some ⟨b, 0, none⟩)] w (U8L z w) := e ▸ af_arr b q c w hC hR
theorem ChR.men {p : Nat → Int} {c : Ch} (h : ChR p c) : ChR (menA p c) c := by
 unfold menA
 cases c.m.ca
 ·cases c.m.dr == 0
  ·exact (h.tak _).put _ _ h.x
  ·exact ((h.put _ _ ⟨by decide, by decide⟩).put _ _ ⟨by decide, by decide⟩).put _ _ (arr_rng h)
 ·exact (((h.put _ _ ⟨by decide, by decide⟩).put _ _ ⟨by decide, by decide⟩).put _ _ h.x).put _ _ (h.mkz 4)
theorem ChR.poc {p : Nat → Int} {c : Ch} (h : ChR p c) : ChR (pocA p c) c := by
 unfold pocA
 cases p 0 == 2
 ·exact h
 ·cases c.m.dr == 0
  ·exact h
  ·cases c.m.ca
   ·have h2 := h.add (kepZ p c)
    have h3 : ∀ (q : Nat → Int) (s : Int), ChR q c → ChR (unmA q s) c := fun q s hq => hq.pr (clearN_lt (pro_lt hq.wf) s)
    have h4 : ∀ (q : Nat → Int) (s : Int), ChR q c → ChR (markA q s) c := fun q s hq => hq.pr (putN_lt (pro_lt hq.wf) s)
    show ChR (carM (addP p (p 78) (kepZ p c)) c) c
    unfold carM
    cases (hasN (proN (addP p (p 78) (kepZ p c))) c.m.f || !(c.m.pr == 0))
    ·exact h3 _ _ (h3 _ _ h2)
    ·exact h4 _ _ (h3 _ _ (h3 _ _ h2))
   ·show ChR (carR p c) c
    unfold carR
    cases hasN (proN p) c.m.t
    ·exact h
    ·exact (h.pr (clearN_lt (pro_lt h.wf) _)).pr (putN_lt (pro_lt (h.wf.unm _)) _)
section
variable {L : Nat} {P : Program} {ops : Array Oper} {Q : Exit → Act → World → Prop} {md : Region.Mode}
theorem late_forkA {P : Program} {md : Region.Mode} {ops : Array Oper} {Q : Exit → Act → World → Prop} (i L : Nat) {n : Nat} {listed : Array Bool} {a : Act} {w : World} (hr : Region.ready md ops listed = [i, L]) (hz : ((ops[i]?).isSome && i != L) = true) (hzL : (ops[L]?).isSome = true)
  (h1 : LateStep L P md ops Q n listed a w i)
  (h2 : ∀ o : Oper, ops[L]? = some o → Region.wanted o (yielded ops a.tmps) = true ∧ ∀ w', Later w w' → ∀ K : Act → World → Prop, Shut (∀ a2 w2, wpAny P md ops Q n (listed.setIfInBounds L true) a2 w2 → K a2 w2) → Wp P o a w' K Q) : Late L P md ops Q (n + 1) listed a w := fun w' hw' =>
 ⟨fun h0 => (by rw [hr] at h0; cases h0), fun k hk => (by
  rw [hr] at hk
  have hk : k = i ∨ k = L := by simpa using hk
  rcases hk with rfl | rfl
  ·exact late_step hz h1 hw'
  ·obtain ⟨o, ho⟩ := Option.isSome_iff_exists.1 hzL
   obtain ⟨hw, h⟩ := h2 o ho
   unfold wpOp
   rw [ho]
   simp only [hw, if_true]
   exact .inl (h w' hw' _ fun a2 w2 hk => hk).out)⟩
end
theorem af_men (b : Nat) (p : Nat → Int) (c : Ch) (w : World) (hC : CH w b p c) (hR : ChR p c) (hT : AfT b w) : Calls Tryz.prog 64 #[.pointer (some ⟨b, 0, none⟩)] w (AfL b (menA p c) c w) := by
 have HC := H_ hC
 have HM := H_ hR.m
 have HR := H_ hR
 have hx := hR.x
 have hdr := hR.m.dr
 have ht := hR.turn
 have harr := arr_rng hR
 have HT := H_ hT
 clear hC hR hT
 have HB := H_ (Kept.refl (fun k => k = b) w)
 unfold menA
 cases g1 : c.m.ca
 ·cases g2 : (c.m.dr == 0)
  ·have gn : c.m.dr ≠ 0 := beq_eq_false_iff_ne.1 g2
   obtain ⟨q, hq⟩ : ∃ q, takP p (p 78) c.m.dr = q := ⟨_, rfl⟩
   have HQ := H_ hq
   show Calls _ _ _ _ (AfL b (putP (takP p (p 78) c.m.dr) c.m.t c.x) c w)
   rw [hq]
   clear hq
   go_enter Tryz.func64, Tryz.ntmps64
   go_wp2_with (first
    | (refine step_get rfl 4 _ rfl b 92 rfl Tryz.underlying4 rfl (.bool c.m.ca) (HC.out.ca) ?_)
    | (refine step_get rfl 5 _ rfl b 91 rfl Tryz.underlying5 rfl (.int .u8 c.m.dr) (HC.out.dr) ?_))
   refine late_begin 21 (by kernel_rfl) ?_
   refine lw 0 rfl ?_
   simp only [Act.put, pa, pb, pc]
   refine lw 1 rfl ?_
   simp only [Act.put, pa, pb, pc]
   refine lw 2 rfl ?_
   simp only [Act.put, pa, pb, pc]
   refine lw 3 rfl ?_
   simp only [Act.put, pa, pb, pc]
   refine lv 4 rfl ⟨.agg (posA (p)), fun w' hl => (run_chp _ rfl b rfl (p) c (HC.out.later hl)), ?_⟩
   simp only [Act.put, pa, pb, pc]
   refine lw 5 rfl ?_
   simp only [Act.put, pa, pb, pc]
   refine lw 6 rfl ?_
   simp only [Act.put, pa, pb, pc]
   refine lw 7 rfl ?_
   simp only [Act.put, pa, pb, pc]
   refine lw 8 rfl ?_
   simp only [Act.put, pa, pb, pc]
   refine lv 9 rfl ⟨.int .u8 (p 78), fun w' hl => (run_get 5 _ rfl b 78 rfl Tryz.underlying5 rfl (.int .u8 (p 78)) ((HC.out.later hl).cell 78 (by decide))), ?_⟩
   simp only [Act.put, pa, pb, pc]
   refine lw 10 rfl ?_
   simp only [Act.put, pa, pb, pc]
   refine lw 11 rfl ?_
   simp only [Act.put, pa, pb, pc]
   refine lw 12 rfl ?_
   simp only [Act.put, pa, pb, pc]
   refine lw 13 rfl ?_
   simp only [Act.put, pa, pb, pc]
   refine lv 14 rfl ⟨.int .u8 c.m.dr, fun w' hl => (run_get 5 _ rfl b 91 rfl Tryz.underlying5 rfl (.int .u8 c.m.dr) ((HC.out.later hl).dr)), ?_⟩
   simp only [Act.put, pa, pb, pc]
   refine l1 15 rfl fun wn hl K hK => ?_
   have HC := H_ (HC.out.later hl); have HB := H_ (kept_on HB.out hl); clear hl
   refine we ?_
   refine (dr_Take p (p 78) c.m.dr _ HR.out.t0 HR.out.wf.dr).mono ?_; rintro e wm ⟨rfl, hb⟩; refine ⟨_, rfl, ?_⟩
   rw [HQ.out]
   refine hK.out _ _ hb ?_
   have HC := H_ (HC.out.later hb); have HB := H_ (kept_on HB.out hb); clear hb
   clear hK K
   simp only [Act.put, pa, pb, pc]
   refine lw 16 rfl ?_
   simp only [Act.put, pa, pb, pc]
   refine lw 17 rfl ?_
   simp only [Act.put, pa, pb, pc]
   refine late_takeD 19 [20, 21] (by kernel_rfl) (by kernel_rfl) (by kernel_rfl) (by kernel_rfl) (by kernel_rfl) (fun _ _ d _ _ h => by cases d <;> exact h) (fun o ho => ?_)
   simp only [qa, qb, qc, qd] at ho; subst ho
   apply Exists.intro
   refine ⟨Or.inl ⟨by kernel_rfl, fun w' hl => Or.inl ?_⟩, ?_⟩
   ·(go_simp; try with_reducible rfl)
   simp only [Act.put, pa, pb, pc]
   refine lw 20 rfl ?_
   simp only [Act.put, pa, pb, pc]
   refine late_forkA 18 21 (by kernel_rfl) (by kernel_rfl) (by kernel_rfl) (fun o ho => ?_) (fun o ho => ?_)
   ·simp only [qa, qb, qc, qd] at ho; subst ho
    refine ⟨by kernel_rfl, fun wn hl K hK => ?_⟩
    have HC := H_ (HC.out.later hl); have HB := H_ (kept_on HB.out hl); clear hl
    refine wp_value (by go_simp; try with_reducible rfl) ?_
    refine hK.out _ _ (Later.refl _) ?_
    clear hK K
    simp only [Act.put, pa, pb, pc]
    refine late_last 21 (by kernel_rfl) (by kernel_rfl) (by kernel_rfl) (fun o ho => ?_)
    simp only [qa, qb, qc, qd] at ho; subst ho
    refine ⟨by kernel_rfl, fun wn hl K hK => ?_⟩
    have HC := H_ (HC.out.later hl); have HB := H_ (kept_on HB.out hl); clear hl
    refine late_ch _ _ rfl b rfl p (q) c rfl HC.out ?_; intro wm U R; have HC := H_ R; have HB := H_ (kept_upd HB.out U); clear U R
    refine hK.out _ _ ?_
    clear hK K
    simp only [Act.put, pa, pb, pc]
    go_wp2_with fail
    refine late_begin 7 (by kernel_rfl) ?_
    refine lw 0 rfl ?_
    simp only [Act.put, pa, pb, pc]
    refine late_takeD 1 [2, 7] (by kernel_rfl) (by kernel_rfl) (by kernel_rfl) (by kernel_rfl) (by kernel_rfl) (fun _ _ d _ _ h => by cases d <;> exact h) (fun o ho => ?_)
    simp only [qa, qb, qc, qd] at ho; subst ho
    apply Exists.intro
    refine ⟨Or.inl ⟨by kernel_rfl, fun w' hl => Or.inl ?_⟩, ?_⟩
    ·(go_simp; try with_reducible rfl)
    simp only [Act.put, pa, pb, pc]
    refine late_takeD 3 [4, 5, 6, 7] (by kernel_rfl) (by kernel_rfl) (by kernel_rfl) (by kernel_rfl) (by kernel_rfl) (fun _ _ d _ _ h => by cases d <;> exact h) (fun o ho => ?_)
    simp only [qa, qb, qc, qd] at ho; subst ho
    apply Exists.intro
    refine ⟨Or.inl ⟨by kernel_rfl, fun w' hl => Or.inl ?_⟩, ?_⟩
    ·(go_simp; try with_reducible rfl)
    simp only [Act.put, pa, pb, pc]
    refine late_takeD 4 [5, 6, 7] (by kernel_rfl) (by kernel_rfl) (by kernel_rfl) (by kernel_rfl) (by kernel_rfl) (fun _ _ d _ _ h => by cases d <;> exact h) (fun o ho => ?_)
    simp only [qa, qb, qc, qd] at ho; subst ho
    apply Exists.intro
    refine ⟨Or.inl ⟨by kernel_rfl, fun w' hl => Or.inl ?_⟩, ?_⟩
    ·(go_simp; try with_reducible rfl)
    simp only [Act.put, pa, pb, pc]
    refine late_takeD 5 [6, 7] (by kernel_rfl) (by kernel_rfl) (by kernel_rfl) (by kernel_rfl) (by kernel_rfl) (fun _ _ d _ _ h => by cases d <;> exact h) (fun o ho => ?_)
    simp only [qa, qb, qc, qd] at ho; subst ho
    apply Exists.intro
    refine ⟨Or.inl ⟨by kernel_rfl, fun w' hl => Or.inl ?_⟩, ?_⟩
    ·(go_simp; try with_reducible rfl)
    simp only [Act.put, pa, pb, pc]
    refine lv 6 rfl ⟨.int .u8 c.x, fun w' hl => (run_get 5 _ rfl b 93 rfl Tryz.underlying5 rfl (.int .u8 c.x) ((HC.out.later hl).x)), ?_⟩
    simp only [Act.put, pa, pb, pc]
    refine l1 2 rfl fun wn hl K hK => ?_
    have HC := H_ (HC.out.later hl); have HB := H_ (kept_on HB.out hl); clear hl
    refine we ?_
    refine (af_to b _ c _ HC.out HM.out).mono ?_; rintro e wm ⟨rfl, rfl⟩; refine ⟨_, rfl, ?_⟩
    refine hK.out _ _ (Later.refl _) ?_
    clear hK K
    simp only [Act.put, pa, pb, pc]
    refine late_last 7 (by kernel_rfl) (by kernel_rfl) (by kernel_rfl) (fun o ho => ?_)
    simp only [qa, qb, qc, qd] at ho; subst ho
    refine ⟨by kernel_rfl, fun wn hl K hK => ?_⟩
    have HC := H_ (HC.out.later hl); have HB := H_ (kept_on HB.out hl); clear hl
    refine we ?_
    refine (af_put b _ c _ _ _ HC.out (by omega) (by omega)).mono ?_; rintro e wm ⟨⟨v, rfl⟩, hc, hk⟩; refine ⟨_, rfl, ?_⟩
    have HC := H_ hc; have HB := H_ (HB.out.trans hk); clear hc hk
    refine hK.out _ _ ?_
    clear hK K
    simp only [Act.put, pa, pb, pc]
    go_wp2_with fail
    refine bodyPost_end (results_none rfl _ _ _) rfl ?_
    exact ⟨⟨_, rfl⟩, HC.out, HB.out⟩
   ·simp only [qa, qb, qc, qd] at ho; subst ho
    refine ⟨by kernel_rfl, fun wn hl K hK => ?_⟩
    have HC := H_ (HC.out.later hl); have HB := H_ (kept_on HB.out hl); clear hl
    refine late_ch _ _ rfl b rfl p (q) c rfl HC.out ?_; intro wm U R; have HC := H_ R; have HB := H_ (kept_upd HB.out U); clear U R
    refine hK.out _ _ ?_
    clear hK K
    simp only [Act.put, pa, pb, pc]
    refine any_one 18 (by kernel_rfl) (by kernel_rfl) (fun o ho => ?_)
    simp only [qa, qb, qc, qd] at ho; subst ho
    refine ⟨by kernel_rfl, fun K hK => ?_⟩
    refine wp_value (by go_simp; try with_reducible rfl) ?_
    refine hK.out _ _ ?_
    clear hK K
    simp only [Act.put, pa, pb, pc]
    refine any_end (by kernel_rfl) ?_
    go_wp2_with fail
    refine late_begin 7 (by kernel_rfl) ?_
    refine lw 0 rfl ?_
    simp only [Act.put, pa, pb, pc]
    refine late_takeD 1 [2, 7] (by kernel_rfl) (by kernel_rfl) (by kernel_rfl) (by kernel_rfl) (by kernel_rfl) (fun _ _ d _ _ h => by cases d <;> exact h) (fun o ho => ?_)
    simp only [qa, qb, qc, qd] at ho; subst ho
    apply Exists.intro
    refine ⟨Or.inl ⟨by kernel_rfl, fun w' hl => Or.inl ?_⟩, ?_⟩
    ·(go_simp; try with_reducible rfl)
    simp only [Act.put, pa, pb, pc]
    refine late_takeD 3 [4, 5, 6, 7] (by kernel_rfl) (by kernel_rfl) (by kernel_rfl) (by kernel_rfl) (by kernel_rfl) (fun _ _ d _ _ h => by cases d <;> exact h) (fun o ho => ?_)
    simp only [qa, qb, qc, qd] at ho; subst ho
    apply Exists.intro
    refine ⟨Or.inl ⟨by kernel_rfl, fun w' hl => Or.inl ?_⟩, ?_⟩
    ·(go_simp; try with_reducible rfl)
    simp only [Act.put, pa, pb, pc]
    refine late_takeD 4 [5, 6, 7] (by kernel_rfl) (by kernel_rfl) (by kernel_rfl) (by kernel_rfl) (by kernel_rfl) (fun _ _ d _ _ h => by cases d <;> exact h) (fun o ho => ?_)
    simp only [qa, qb, qc, qd] at ho; subst ho
    apply Exists.intro
    refine ⟨Or.inl ⟨by kernel_rfl, fun w' hl => Or.inl ?_⟩, ?_⟩
    ·(go_simp; try with_reducible rfl)
    simp only [Act.put, pa, pb, pc]
    refine late_takeD 5 [6, 7] (by kernel_rfl) (by kernel_rfl) (by kernel_rfl) (by kernel_rfl) (by kernel_rfl) (fun _ _ d _ _ h => by cases d <;> exact h) (fun o ho => ?_)
    simp only [qa, qb, qc, qd] at ho; subst ho
    apply Exists.intro
    refine ⟨Or.inl ⟨by kernel_rfl, fun w' hl => Or.inl ?_⟩, ?_⟩
    ·(go_simp; try with_reducible rfl)
    simp only [Act.put, pa, pb, pc]
    refine lv 6 rfl ⟨.int .u8 c.x, fun w' hl => (run_get 5 _ rfl b 93 rfl Tryz.underlying5 rfl (.int .u8 c.x) ((HC.out.later hl).x)), ?_⟩
    simp only [Act.put, pa, pb, pc]
    refine l1 2 rfl fun wn hl K hK => ?_
    have HC := H_ (HC.out.later hl); have HB := H_ (kept_on HB.out hl); clear hl
    refine we ?_
    refine (af_to b _ c _ HC.out HM.out).mono ?_; rintro e wm ⟨rfl, rfl⟩; refine ⟨_, rfl, ?_⟩
    refine hK.out _ _ (Later.refl _) ?_
    clear hK K
    simp only [Act.put, pa, pb, pc]
    refine late_last 7 (by kernel_rfl) (by kernel_rfl) (by kernel_rfl) (fun o ho => ?_)
    simp only [qa, qb, qc, qd] at ho; subst ho
    refine ⟨by kernel_rfl, fun wn hl K hK => ?_⟩
    have HC := H_ (HC.out.later hl); have HB := H_ (kept_on HB.out hl); clear hl
    refine we ?_
    refine (af_put b _ c _ _ _ HC.out (by omega) (by omega)).mono ?_; rintro e wm ⟨⟨v, rfl⟩, hc, hk⟩; refine ⟨_, rfl, ?_⟩
    have HC := H_ hc; have HB := H_ (HB.out.trans hk); clear hc hk
    refine hK.out _ _ ?_
    clear hK K
    simp only [Act.put, pa, pb, pc]
    go_wp2_with fail
    refine bodyPost_end (results_none rfl _ _ _) rfl ?_
    exact ⟨⟨_, rfl⟩, HC.out, HB.out⟩
  ·have gn : c.m.dr = 0 := eq_of_beq g2
   show Calls _ _ _ _ (AfL b (putP (putP (putP p c.k 0) c.m.f 0) c.m.t (arrZ p c)) c w)
   go_enter Tryz.func64, Tryz.ntmps64
   go_wp2_with (first
    | (refine step_get rfl 4 _ rfl b 92 rfl Tryz.underlying4 rfl (.bool c.m.ca) (HC.out.ca) ?_)
    | (refine step_get rfl 5 _ rfl b 91 rfl Tryz.underlying5 rfl (.int .u8 c.m.dr) (HC.out.dr) ?_)
    | (refine step_get rfl 3 _ rfl b 95 rfl Tryz.underlying3 rfl (.int .i64 c.k) (HC.out.k) ?_)
    | (go_at_call 130; refine (af_from b _ c _ HC.out HM.out).mono ?_; rintro e w3 ⟨rfl, rfl⟩)
    | (go_at_call 129; refine (af_to b _ c _ HC.out HM.out).mono ?_; rintro e w3 ⟨rfl, rfl⟩)
    | (go_at_call 131; refine (arrK (arr_same (by rw [putP_78, putP_78])) b _ HC.out ((HR.out.put c.k 0 ⟨by decide, by decide⟩).put c.m.f 0 ⟨by decide, by decide⟩)).mono ?_; rintro e w3 ⟨rfl, hb⟩; have HC := H_ (HC.out.later hb); have HB := H_ (kept_on HB.out hb); clear hb)
    | (go_at_call 128; refine (af_put b _ c _ _ _ HC.out (by omega) (by omega)).mono ?_; rintro e w3 ⟨⟨v, rfl⟩, hc, hk⟩; have HC := H_ hc; have HB := H_ (HB.out.trans hk); clear hc hk))
   refine bodyPost_end (results_none rfl _ _ _) rfl ?_
   exact ⟨⟨_, rfl⟩, HC.out, HB.out⟩
 ·show Calls _ _ _ _ (AfL b (casA p c) c w)
  go_enter Tryz.func64, Tryz.ntmps64
  go_wp2_with (first
   | (refine step_get rfl 4 _ rfl b 92 rfl Tryz.underlying4 rfl (.bool c.m.ca) (HC.out.ca) ?_)
   | (go_at_call 126; refine (af_castle b _ c _ HC.out HR.out (HT.out.on HB.out) g1).mono ?_; rintro e w3 ⟨⟨v, rfl⟩, hc, hk⟩; have HC := H_ hc; have HB := H_ (HB.out.trans hk); clear hc hk))
  refine bodyPost_end (results_none rfl _ _ _) rfl ?_
  exact ⟨⟨_, rfl⟩, HC.out, HB.out⟩
theorem af_pocket (b : Nat) (p : Nat → Int) (c : Ch) (w : World) (hC : CH w b p c) (hR : ChR p c) (hT : AfT b w) : Calls Tryz.prog 65 #[.pointer (some ⟨b, 0, none⟩)] w (AfL b (pocA p c) c w) := by
 have HC := H_ hC
 have HM := H_ hR.m
 have HR := H_ hR
 have hx := hR.x
 have hdr := hR.m.dr
 have ht := hR.turn
 have harr := arr_rng hR
 have HT := H_ hT
 clear hC hR hT
 have HB := H_ (Kept.refl (fun k => k = b) w)
 unfold pocA
 cases g1 : (p 0 == 2)
 ·have gn : p 0 ≠ 2 := beq_eq_false_iff_ne.1 g1
  go_enter Tryz.func65, Tryz.ntmps65
  go_wp2_with (first
   | (refine step_get rfl 5 _ rfl b 0 rfl Tryz.underlying5 rfl (.int .u8 (p 0)) (HC.out.cell 0 (by decide)) ?_))
  refine bodyPost_end (results_none rfl _ _ _) rfl ?_
  exact ⟨⟨_, rfl⟩, HC.out, HB.out⟩
 ·have gn : p 0 = 2 := eq_of_beq g1
  cases g2 : (c.m.dr == 0)
  ·have gn2 : c.m.dr ≠ 0 := beq_eq_false_iff_ne.1 g2
   go_enter Tryz.func65, Tryz.ntmps65
   go_wp2_with (first
    | (refine step_get rfl 5 _ rfl b 0 rfl Tryz.underlying5 rfl (.int .u8 (p 0)) (HC.out.cell 0 (by decide)) ?_)
    | (refine step_get rfl 5 _ rfl b 91 rfl Tryz.underlying5 rfl (.int .u8 c.m.dr) (HC.out.dr) ?_))
   refine bodyPost_end (results_none rfl _ _ _) rfl ?_
   exact ⟨⟨_, rfl⟩, HC.out, HB.out⟩
  ·have gn2 : c.m.dr = 0 := eq_of_beq g2
   cases g3 : c.m.ca
   ·show Calls _ _ _ _ (AfL b (carM (addP p (p 78) (kepZ p c)) c) c w)
    obtain ⟨z, hz⟩ : ∃ z, kepZ p c = z := ⟨_, rfl⟩
    have HZ := H_ hz
    rw [hz]
    obtain ⟨q, hq⟩ : ∃ q, addP p (p 78) z = q := ⟨_, rfl⟩
    have HQ := H_ (show ChR q c by rw [← hq]; exact HR.out.add z)
    have HQe := H_ hq
    rw [hq]
    clear hz hq
    go_enter Tryz.func65, Tryz.ntmps65
    go_wp2_with (first
     | (refine step_get rfl 5 _ rfl b 0 rfl Tryz.underlying5 rfl (.int .u8 (p 0)) (HC.out.cell 0 (by decide)) ?_)
     | (refine step_get rfl 5 _ rfl b 91 rfl Tryz.underlying5 rfl (.int .u8 c.m.dr) (HC.out.dr) ?_)
     | (refine step_get rfl 4 _ rfl b 92 rfl Tryz.underlying4 rfl (.bool c.m.ca) (HC.out.ca) ?_))
    refine late_begin 15 (by kernel_rfl) ?_
    refine lw 0 rfl ?_
    simp only [Act.put, pa, pb, pc]
    refine lw 1 rfl ?_
    simp only [Act.put, pa, pb, pc]
    refine lw 2 rfl ?_
    simp only [Act.put, pa, pb, pc]
    refine lw 3 rfl ?_
    simp only [Act.put, pa, pb, pc]
    refine lv 4 rfl ⟨.agg (posA (p)), fun w' hl => (run_chp _ rfl b rfl (p) c (HC.out.later hl)), ?_⟩
    simp only [Act.put, pa, pb, pc]
    refine lw 5 rfl ?_
    simp only [Act.put, pa, pb, pc]
    refine lw 6 rfl ?_
    simp only [Act.put, pa, pb, pc]
    refine lw 7 rfl ?_
    simp only [Act.put, pa, pb, pc]
    refine lw 8 rfl ?_
    simp only [Act.put, pa, pb, pc]
    refine lv 9 rfl ⟨.int .u8 (p 78), fun w' hl => (run_get 5 _ rfl b 78 rfl Tryz.underlying5 rfl (.int .u8 (p 78)) ((HC.out.later hl).cell 78 (by decide))), ?_⟩
    simp only [Act.put, pa, pb, pc]
    refine lw 10 rfl ?_
    simp only [Act.put, pa, pb, pc]
    refine l1 11 rfl fun wn hl K hK => ?_
    have HC := H_ (HC.out.later hl); have HB := H_ (kept_on HB.out hl); clear hl
    refine we ?_
    refine (af_kept b p c _ HC.out HR.out).mono ?_; rintro e wm ⟨rfl, hb⟩; refine ⟨_, rfl, ?_⟩
    rw [HZ.out]
    refine hK.out _ _ hb ?_
    have HC := H_ (HC.out.later hb); have HB := H_ (kept_on HB.out hb); clear hb
    clear hK K
    simp only [Act.put, pa, pb, pc]
    refine l1 12 rfl fun wn hl K hK => ?_
    have HC := H_ (HC.out.later hl); have HB := H_ (kept_on HB.out hl); clear hl
    refine we ?_
    refine (dr_Add p (p 78) z _ HR.out.t0 HR.out.wf.dr).mono ?_; rintro e wm ⟨rfl, hb⟩; refine ⟨_, rfl, ?_⟩
    rw [HQe.out]
    refine hK.out _ _ hb ?_
    have HC := H_ (HC.out.later hb); have HB := H_ (kept_on HB.out hb); clear hb
    clear hK K
    simp only [Act.put, pa, pb, pc]
    refine late_takeD 13 [14, 15] (by kernel_rfl) (by kernel_rfl) (by kernel_rfl) (by kernel_rfl) (by kernel_rfl) (fun _ _ d _ _ h => by cases d <;> exact h) (fun o ho => ?_)
    simp only [qa, qb, qc, qd] at ho; subst ho
    apply Exists.intro
    refine ⟨Or.inl ⟨by kernel_rfl, fun w' hl => Or.inl ?_⟩, ?_⟩
    ·(go_simp; try with_reducible rfl)
    simp only [Act.put, pa, pb, pc]
    refine lw 14 rfl ?_
    simp only [Act.put, pa, pb, pc]
    refine late_last 15 (by kernel_rfl) (by kernel_rfl) (by kernel_rfl) (fun o ho => ?_)
    simp only [qa, qb, qc, qd] at ho; subst ho
    refine ⟨by kernel_rfl, fun wn hl K hK => ?_⟩
    have HC := H_ (HC.out.later hl); have HB := H_ (kept_on HB.out hl); clear hl
    refine late_ch _ _ rfl b rfl p (q) c rfl HC.out ?_; intro wm U R; have HC := H_ R; have HB := H_ (kept_upd HB.out U); clear U R
    refine hK.out _ _ ?_
    clear hK K
    simp only [Act.put, pa, pb, pc]
    go_wp2_with (go_at_call 135; refine (af_carM b q c _ HC.out HQ.out).mono ?_; rintro e w3 ⟨⟨v, rfl⟩, hc, hk⟩; have HC := H_ hc; have HB := H_ (HB.out.trans hk); clear hc hk)
    refine bodyPost_end (results_none rfl _ _ _) rfl ?_
    exact ⟨⟨_, rfl⟩, HC.out, HB.out⟩
   ·show Calls _ _ _ _ (AfL b (carR p c) c w)
    go_enter Tryz.func65, Tryz.ntmps65
    go_wp2_with (first
     | (refine step_get rfl 5 _ rfl b 0 rfl Tryz.underlying5 rfl (.int .u8 (p 0)) (HC.out.cell 0 (by decide)) ?_)
     | (refine step_get rfl 5 _ rfl b 91 rfl Tryz.underlying5 rfl (.int .u8 c.m.dr) (HC.out.dr) ?_)
     | (refine step_get rfl 4 _ rfl b 92 rfl Tryz.underlying4 rfl (.bool c.m.ca) (HC.out.ca) ?_)
     | (go_at_call 132; refine (af_carR b _ c _ HC.out HR.out (HT.out.on HB.out) g3).mono ?_; rintro e w3 ⟨⟨v, rfl⟩, hc, hk⟩; have HC := H_ hc; have HB := H_ (HB.out.trans hk); clear hc hk))
    refine bodyPost_end (results_none rfl _ _ _) rfl ?_
    exact ⟨⟨_, rfl⟩, HC.out, HB.out⟩
end Go.Proofs.YteblmnbagbdiiaaGreatDoor
/-
 Layer 16: contracts of after's home, other, aheadOfHome, the change's kingIsHome, keepsRight, rights.
-/
namespace Go.Proofs.YteblmnbagbdiiaaGreatDoor
open Go.RowKit Go.Shelf
set_option linter.unusedVariables false
set_option linter.unusedSimpArgs false
attribute [local go_sem] Oper.semAt_some

theorem af_home (c : Int) (w : World) : Calls Tryz.prog 200 #[.int .u8 c] w (IntA (hmC c) w) := by
 unfold hmC
 cases g : (c == 0)
 all_goals
  go_enter Tryz.func200, Tryz.ntmps200
  go_wp2
  go_ret
  exact ⟨rfl, rfl⟩
theorem af_ahead (c : Int) (w : World) : Calls Tryz.prog 202 #[.int .u8 c] w (IntA (ahdZ c) w) := by
 unfold ahdZ
 cases g : (c == 0)
 all_goals
  go_enter Tryz.func202, Tryz.ntmps202
  go_wp2
  go_ret
  exact ⟨rfl, rfl⟩
theorem af_other (c : Int) (w : World) : Calls Tryz.prog 142 #[.int .u8 c] w (fun e w' => e = .returned (.int .u8 (oth c)) ∧ w = w') := by
 go_enter Tryz.func142, Tryz.ntmps142
 go_wp2
 go_ret
 exact ⟨rfl, rfl⟩
theorem homeA {c h : Int} (e : hmC c = h) (w : World) : Calls Tryz.prog 200 #[.int .u8 c] w (IntA h w) := e ▸ af_home c w
theorem af_kinH (b : Nat) (p : Nat → Int) (c : Ch) (col : Int) (w : World) (hC : CH w b p c) (hp : BdR p) (hD : TabDb w) : Calls Tryz.prog 201 #[.pointer (some ⟨b, 0, none⟩), .int .u8 col] w (BoL (kinH p col) w) := by
 have HC := H_ hC
 have HP := H_ hp
 have HD := H_ hD
 clear hC hp hD
 have h1 := king_rng p col
 have h2 := hmC_rng col
 unfold kinH
 obtain ⟨k, hk⟩ : ∃ k, kingZ p col = k := ⟨_, rfl⟩
 obtain ⟨h, hh⟩ : ∃ h, hmC col = h := ⟨_, rfl⟩
 rw [hk] at h1
 rw [hh] at h2
 rw [hk, hh]
 have HK := H_ hk
 have HH := H_ hh
 clear hk hh
 have HB := H_ (Below.refl w.heap.size w)
 cases g : decide (h ≤ k)
 ·have g' := of_decide_eq_false g
  go_enter Tryz.func201, Tryz.ntmps201
  go_wp2_with (first
   | (refine ch_load rfl _ rfl rfl HC.out ?_)
   | (go_at_call 31; refine (fndK HK.out _ HP.out (HD.out.on HB.out)).mono ?_; rintro e w3 ⟨rfl, hb⟩; have HC := H_ (HC.out.later hb); have HB := H_ (below_on HB.out hb); clear hb)
   | (go_at_call 200; refine (homeA HH.out _).mono ?_; rintro e w3 ⟨rfl, rfl⟩))
  go_ret
  exact ⟨rfl, HB.out⟩
 ·have g' := of_decide_eq_true g
  go_enter Tryz.func201, Tryz.ntmps201
  go_wp2_with (first
   | (refine ch_load rfl _ rfl rfl HC.out ?_)
   | (go_at_call 31; refine (fndK HK.out _ HP.out (HD.out.on HB.out)).mono ?_; rintro e w3 ⟨rfl, hb⟩; have HC := H_ (HC.out.later hb); have HB := H_ (below_on HB.out hb); clear hb)
   | (go_at_call 200; refine (homeA HH.out _).mono ?_; rintro e w3 ⟨rfl, rfl⟩))
  go_ret
  exact ⟨by simp, HB.out⟩
theorem kinK {p : Nat → Int} {col : Int} {x : Bool} (e : kinH p col = x) (b : Nat) (c : Ch) (w : World) (hC : CH w b p c) (hp : BdR p) (hD : TabDb w) : Calls Tryz.prog 201 #[.pointer (some ⟨b, 0, none⟩), .int .u8 col] w (BoL x w) := e ▸ af_kinH b p c col w hC hp hD
theorem af_keep (b : Nat) (p : Nat → Int) (c : Ch) (col f : Int) (w : World) (hC : CH w b p c) (hp : BdR p) (hD : TabDb w) (hc0 : 0 ≤ col) : Calls Tryz.prog 139 #[.pointer (some ⟨b, 0, none⟩), .int .u8 col, .int .i64 f] w (BoL (keeB p col f c.k) w) := by
 have HC := H_ hC
 have HP := H_ hp
 have HD := H_ hD
 clear hC hp hD
 have h2 := hmC_rng col
 unfold keeB
 obtain ⟨h, hh⟩ : ∃ h, hmC col = h := ⟨_, rfl⟩
 rw [hh] at h2
 rw [hh]
 have HH := H_ hh
 clear hh
 have HB := H_ (Below.refl w.heap.size w)
 cases g1 : decide (0 ≤ f)
 ·have g1' := of_decide_eq_false g1
  have g1n : f < 0 := by omega
  go_enter Tryz.func139, Tryz.ntmps139
  go_wp2_with (first
   | fail)
  go_ret
  exact ⟨rfl, HB.out⟩
 ·have g1' := of_decide_eq_true g1
  have g1n : ¬ f < 0 := by omega
  cases g2 : decide (f < 8)
  ·have g2' := of_decide_eq_false g2
   have g2n : 8 ≤ f := by omega
   go_enter Tryz.func139, Tryz.ntmps139
   go_wp2_with (first
    | fail)
   go_ret
   exact ⟨rfl, HB.out⟩
  ·have g2' := of_decide_eq_true g2
   have g2n : ¬ 8 ≤ f := by omega
   have hw : wrap64 (h + f) = h + f := IntWalk.wrap64_in _ ⟨by omega, by omega⟩
   obtain ⟨R, hR⟩ : ∃ R, h + f = R := ⟨_, rfl⟩
   rw [hR] at hw
   rw [hR]
   obtain ⟨x, hx⟩ : ∃ x, kinH p col = x := ⟨_, rfl⟩
   have HKi := H_ hx
   rw [hx]
   clear hx
   cases g3 : (R == c.k)
   ·have g3' : R ≠ c.k := beq_eq_false_iff_ne.1 g3
    cases x
    ·go_enter Tryz.func139, Tryz.ntmps139
     go_wp2_with (first
      | (go_at_call 200; refine (homeA HH.out _).mono ?_; rintro e w3 ⟨rfl, rfl⟩)
      | (guard_target = gL1 22; refine step_get rfl 3 _ rfl b 95 rfl Tryz.underlying3 rfl (.int .i64 c.k) HC.out.k ?_)
      | (go_at_call 201; refine (kinK HKi.out b c _ HC.out HP.out (HD.out.on HB.out)).mono ?_; rintro e w3 ⟨rfl, hb⟩; have HC := H_ (HC.out.later hb); have HB := H_ (below_on HB.out hb); clear hb))
     go_ret
     exact ⟨rfl, HB.out⟩
    ·go_enter Tryz.func139, Tryz.ntmps139
     go_wp2_with (first
      | (go_at_call 200; refine (homeA HH.out _).mono ?_; rintro e w3 ⟨rfl, rfl⟩)
      | (guard_target = gL1 22; refine step_get rfl 3 _ rfl b 95 rfl Tryz.underlying3 rfl (.int .i64 c.k) HC.out.k ?_)
      | (go_at_call 201; refine (kinK HKi.out b c _ HC.out HP.out (HD.out.on HB.out)).mono ?_; rintro e w3 ⟨rfl, hb⟩; have HC := H_ (HC.out.later hb); have HB := H_ (below_on HB.out hb); clear hb)
      | (guard_target = gL1 33; refine ch_load rfl _ rfl rfl HC.out ?_)
      | (go_at_call 62; refine (at_any p R _ HP.out).mono ?_; rintro e w3 ⟨rfl, hb⟩; have HC := H_ (HC.out.later hb); have HB := H_ (below_on HB.out hb); clear hb)
      | (go_at_call 63; refine (mk_any col 4 _ hc0 (by decide)).mono ?_; rintro e w3 ⟨rfl, rfl⟩))
     go_ret
     exact ⟨by simp, HB.out⟩
   ·have g3' : R = c.k := eq_of_beq g3
    go_enter Tryz.func139, Tryz.ntmps139
    go_wp2_with (first
     | (go_at_call 200; refine (homeA HH.out _).mono ?_; rintro e w3 ⟨rfl, rfl⟩)
     | (guard_target = gL1 22; refine step_get rfl 3 _ rfl b 95 rfl Tryz.underlying3 rfl (.int .i64 c.k) HC.out.k ?_))
    go_ret
    exact ⟨by simp, HB.out⟩
end Go.Proofs.YteblmnbagbdiiaaGreatDoor
