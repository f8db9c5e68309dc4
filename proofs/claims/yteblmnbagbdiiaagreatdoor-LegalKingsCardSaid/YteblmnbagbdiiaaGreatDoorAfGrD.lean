/-
 Several texts in one: AfG, AfH, AfT.
-/
import Derived.Test.YteblmnbagbdiiaaGreatDoorAfGrC
/-
 Layer 16: contracts of the change's strode, pass, clocks, turn.
-/
set_option maxRecDepth 100000
set_option maxHeartbeats 1000000
namespace Go.Proofs.YteblmnbagbdiiaaGreatDoor
open Go.RowKit Go.Shelf
set_option linter.unusedVariables false
set_option linter.unusedSimpArgs false
attribute [local go_sem] Oper.semAt_some

theorem aheadK {c h : Int} (e : ahdZ c = h) (w : World) : Calls Tryz.prog 202 #[.int .u8 c] w (IntA h w) := e ▸ af_ahead c w
theorem tdiv_iw (n k : Int) (h0 : 0 ≤ n) (h1 : n < 1000) (hk : 1 ≤ k) : IntKind.i64.wrap (n.tdiv k) = n / k := by
 rw [Int.tdiv_eq_ediv_of_nonneg h0, IntKind.wrap_i64]
 have h2 : 0 ≤ n / k := Int.ediv_nonneg h0 (by omega)
 have h3 : n / k ≤ n := Int.ediv_le_self _ h0
 omega
theorem tdiv_in (n k : Int) (h0 : 0 ≤ n) (h1 : n < 1000) (hk : 1 ≤ k) : wrap64 (n.tdiv k) = n / k := by
 rw [Int.tdiv_eq_ediv_of_nonneg h0]
 have h2 : 0 ≤ n / k := Int.ediv_nonneg h0 (by omega)
 have h3 : n / k ≤ n := Int.ediv_le_self _ h0
 exact IntWalk.wrap64_in _ ⟨by omega, by omega⟩
theorem af_strode (b : Nat) (p : Nat → Int) (c : Ch) (w : World) (hC : CH w b p c) (hR : ChR p c) : Calls Tryz.prog 140 #[.pointer (some ⟨b, 0, none⟩)] w (BoL (strB' p c) w) := by
 have HC := H_ hC
 have HM := H_ hR.m
 have HR := H_ hR
 have hx := hR.x
 have hf := hR.f
 have ht := hR.t
 clear hC hR
 unfold strB'
 obtain ⟨a, ha⟩ : ∃ a, ahdZ (p 78) = a := ⟨_, rfl⟩
 have HA := H_ ha
 have hw : wrap64 (c.m.t - c.m.f) = c.m.t - c.m.f := IntWalk.wrap64_in _ ⟨by omega, by omega⟩
 have HQ8 := H_ (tdiv_iw c.m.f 8 hf.1 (by omega) (by decide))
 rw [ha]
 clear ha
 have HB := H_ (Below.refl w.heap.size w)
 cases g1 : (kndZ c.x == 1)
 ·have gn : kndZ c.x ≠ 1 := beq_eq_false_iff_ne.1 g1
  go_enter Tryz.func140, Tryz.ntmps140
  go_wp2_with (first
   | (go_at_call 130; refine (af_from b _ c _ HC.out HM.out).mono ?_; rintro e w3 ⟨rfl, rfl⟩)
   | (go_at_call 129; refine (af_to b _ c _ HC.out HM.out).mono ?_; rintro e w3 ⟨rfl, rfl⟩))
  refine late_begin 27 (by kernel_rfl) ?_
  refine lw 0 rfl ?_
  simp only [Act.put, pa, pb, pc]
  refine lw 1 rfl ?_
  simp only [Act.put, pa, pb, pc]
  refine lw 2 rfl ?_
  simp only [Act.put, pa, pb, pc]
  refine lv 3 rfl ⟨.int .u8 c.x, fun w' hl => (run_get 5 _ rfl b 93 rfl Tryz.underlying5 rfl (.int .u8 c.x) ((HC.out.later hl).x)), ?_⟩
  simp only [Act.put, pa, pb, pc]
  refine l1 4 rfl fun wn hl K hK => ?_
  have HC := H_ (HC.out.later hl); have HB := H_ (below_on HB.out hl); clear hl
  refine we ?_
  refine (knd_any c.x _ (by omega) (by omega)).mono ?_; rintro e wm ⟨rfl, rfl⟩; refine ⟨_, rfl, ?_⟩
  refine hK.out _ _ (Later.refl _) ?_
  clear hK K
  simp only [Act.put, pa, pb, pc]
  refine lv 5 rfl ⟨.bool false, fun w' hl => ?_, ?_⟩
  ·(go_simp; try simp [gn])
  simp only [Act.put, pa, pb, pc]
  refine lw 6 rfl ?_
  simp only [Act.put, pa, pb, pc]
  refine lo 7 rfl ?_
  simp only [Act.put, pa, pb, pc]
  refine lo 8 rfl ?_
  simp only [Act.put, pa, pb, pc]
  refine lo 9 rfl ?_
  simp only [Act.put, pa, pb, pc]
  refine lo 10 rfl ?_
  simp only [Act.put, pa, pb, pc]
  refine lo 11 rfl ?_
  simp only [Act.put, pa, pb, pc]
  refine lo 12 rfl ?_
  simp only [Act.put, pa, pb, pc]
  refine lo 13 rfl ?_
  simp only [Act.put, pa, pb, pc]
  refine lo 14 rfl ?_
  simp only [Act.put, pa, pb, pc]
  refine lo 15 rfl ?_
  simp only [Act.put, pa, pb, pc]
  refine lo 16 rfl ?_
  simp only [Act.put, pa, pb, pc]
  refine lw 17 rfl ?_
  simp only [Act.put, pa, pb, pc]
  refine lw 18 rfl ?_
  simp only [Act.put, pa, pb, pc]
  refine lo 19 rfl ?_
  simp only [Act.put, pa, pb, pc]
  refine lo 20 rfl ?_
  simp only [Act.put, pa, pb, pc]
  refine lo 21 rfl ?_
  simp only [Act.put, pa, pb, pc]
  refine lo 22 rfl ?_
  simp only [Act.put, pa, pb, pc]
  refine lo 23 rfl ?_
  simp only [Act.put, pa, pb, pc]
  refine lo 24 rfl ?_
  simp only [Act.put, pa, pb, pc]
  refine lw 25 rfl ?_
  simp only [Act.put, pa, pb, pc]
  refine lw 26 rfl ?_
  simp only [Act.put, pa, pb, pc]
  refine late_end (by kernel_rfl) (fun wn hl => ?_)
  have HC := H_ (HC.out.later hl); have HB := H_ (below_on HB.out hl); clear hl
  go_wp2_with fail
  go_ret
  exact ⟨rfl, HB.out⟩
 ·have gn : kndZ c.x = 1 := eq_of_beq g1
  cases g2 : (c.m.f / 8 == a)
  ·have gn2 : c.m.f / 8 ≠ a := beq_eq_false_iff_ne.1 g2
   go_enter Tryz.func140, Tryz.ntmps140
   go_wp2_with (first
    | (go_at_call 130; refine (af_from b _ c _ HC.out HM.out).mono ?_; rintro e w3 ⟨rfl, rfl⟩)
    | (go_at_call 129; refine (af_to b _ c _ HC.out HM.out).mono ?_; rintro e w3 ⟨rfl, rfl⟩))
   refine late_begin 27 (by kernel_rfl) ?_
   refine lw 0 rfl ?_
   simp only [Act.put, pa, pb, pc]
   refine lw 1 rfl ?_
   simp only [Act.put, pa, pb, pc]
   refine lw 2 rfl ?_
   simp only [Act.put, pa, pb, pc]
   refine lv 3 rfl ⟨.int .u8 c.x, fun w' hl => (run_get 5 _ rfl b 93 rfl Tryz.underlying5 rfl (.int .u8 c.x) ((HC.out.later hl).x)), ?_⟩
   simp only [Act.put, pa, pb, pc]
   refine l1 4 rfl fun wn hl K hK => ?_
   have HC := H_ (HC.out.later hl); have HB := H_ (below_on HB.out hl); clear hl
   refine we ?_
   refine (knd_any c.x _ (by omega) (by omega)).mono ?_; rintro e wm ⟨rfl, rfl⟩; refine ⟨_, rfl, ?_⟩
   refine hK.out _ _ (Later.refl _) ?_
   clear hK K
   simp only [Act.put, pa, pb, pc]
   refine lv 5 rfl ⟨.bool true, fun w' hl => ?_, ?_⟩
   ·(go_simp; try simp [gn])
   simp only [Act.put, pa, pb, pc]
   refine lw 6 rfl ?_
   simp only [Act.put, pa, pb, pc]
   refine lw 7 rfl ?_
   simp only [Act.put, pa, pb, pc]
   refine lw 10 rfl ?_
   simp only [Act.put, pa, pb, pc]
   refine lw 11 rfl ?_
   simp only [Act.put, pa, pb, pc]
   refine lw 12 rfl ?_
   simp only [Act.put, pa, pb, pc]
   refine lw 13 rfl ?_
   simp only [Act.put, pa, pb, pc]
   refine lv 14 rfl ⟨.int .u8 (p 78), fun w' hl => (run_get 5 _ rfl b 78 rfl Tryz.underlying5 rfl (.int .u8 (p 78)) ((HC.out.later hl).cell 78 (by decide))), ?_⟩
   simp only [Act.put, pa, pb, pc]
   refine l1 8 rfl fun wn hl K hK => ?_
   have HC := H_ (HC.out.later hl); have HB := H_ (below_on HB.out hl); clear hl
   refine we ?_
   refine (af_from b p c _ HC.out HM.out).mono ?_; rintro e wm ⟨rfl, rfl⟩; refine ⟨_, rfl, ?_⟩
   refine hK.out _ _ (Later.refl _) ?_
   clear hK K
   simp only [Act.put, pa, pb, pc]
   refine lv 9 rfl ⟨.int .i64 (c.m.f / 8), fun w' hl => ?_, ?_⟩
   ·(go_simp; first | exact HQ8.out | exact HQ8.out.trans gn2)
   simp only [Act.put, pa, pb, pc]
   refine l1 15 rfl fun wn hl K hK => ?_
   have HC := H_ (HC.out.later hl); have HB := H_ (below_on HB.out hl); clear hl
   refine we ?_
   refine (aheadK HA.out _).mono ?_; rintro e wm ⟨rfl, rfl⟩; refine ⟨_, rfl, ?_⟩
   refine hK.out _ _ (Later.refl _) ?_
   clear hK K
   simp only [Act.put, pa, pb, pc]
   refine lv 16 rfl ⟨.bool false, fun w' hl => ?_, ?_⟩
   ·(go_simp; try simp [gn2])
   simp only [Act.put, pa, pb, pc]
   refine lw 17 rfl ?_
   simp only [Act.put, pa, pb, pc]
   refine lw 18 rfl ?_
   simp only [Act.put, pa, pb, pc]
   refine lo 19 rfl ?_
   simp only [Act.put, pa, pb, pc]
   refine lo 20 rfl ?_
   simp only [Act.put, pa, pb, pc]
   refine lo 21 rfl ?_
   simp only [Act.put, pa, pb, pc]
   refine lo 22 rfl ?_
   simp only [Act.put, pa, pb, pc]
   refine lo 23 rfl ?_
   simp only [Act.put, pa, pb, pc]
   refine lo 24 rfl ?_
   simp only [Act.put, pa, pb, pc]
   refine lw 25 rfl ?_
   simp only [Act.put, pa, pb, pc]
   refine lw 26 rfl ?_
   simp only [Act.put, pa, pb, pc]
   refine late_end (by kernel_rfl) (fun wn hl => ?_)
   have HC := H_ (HC.out.later hl); have HB := H_ (below_on HB.out hl); clear hl
   go_wp2_with fail
   go_ret
   exact ⟨rfl, HB.out⟩
  ·have gn2 : c.m.f / 8 = a := eq_of_beq g2
   cases g3 : (c.m.t - c.m.f == 16)
   ·have gn3 : c.m.t - c.m.f ≠ 16 := beq_eq_false_iff_ne.1 g3
    obtain ⟨z, hz⟩ : ∃ z, (c.m.t - c.m.f == -16) = z := ⟨_, rfl⟩
    rw [hz]
    go_enter Tryz.func140, Tryz.ntmps140
    go_wp2_with (first
     | (go_at_call 130; refine (af_from b _ c _ HC.out HM.out).mono ?_; rintro e w3 ⟨rfl, rfl⟩)
     | (go_at_call 129; refine (af_to b _ c _ HC.out HM.out).mono ?_; rintro e w3 ⟨rfl, rfl⟩))
    refine late_begin 27 (by kernel_rfl) ?_
    refine lw 0 rfl ?_
    simp only [Act.put, pa, pb, pc]
    refine lw 1 rfl ?_
    simp only [Act.put, pa, pb, pc]
    refine lw 2 rfl ?_
    simp only [Act.put, pa, pb, pc]
    refine lv 3 rfl ⟨.int .u8 c.x, fun w' hl => (run_get 5 _ rfl b 93 rfl Tryz.underlying5 rfl (.int .u8 c.x) ((HC.out.later hl).x)), ?_⟩
    simp only [Act.put, pa, pb, pc]
    refine l1 4 rfl fun wn hl K hK => ?_
    have HC := H_ (HC.out.later hl); have HB := H_ (below_on HB.out hl); clear hl
    refine we ?_
    refine (knd_any c.x _ (by omega) (by omega)).mono ?_; rintro e wm ⟨rfl, rfl⟩; refine ⟨_, rfl, ?_⟩
    refine hK.out _ _ (Later.refl _) ?_
    clear hK K
    simp only [Act.put, pa, pb, pc]
    refine lv 5 rfl ⟨.bool true, fun w' hl => ?_, ?_⟩
    ·(go_simp; try simp [gn])
    simp only [Act.put, pa, pb, pc]
    refine lw 6 rfl ?_
    simp only [Act.put, pa, pb, pc]
    refine lw 7 rfl ?_
    simp only [Act.put, pa, pb, pc]
    refine lw 10 rfl ?_
    simp only [Act.put, pa, pb, pc]
    refine lw 11 rfl ?_
    simp only [Act.put, pa, pb, pc]
    refine lw 12 rfl ?_
    simp only [Act.put, pa, pb, pc]
    refine lw 13 rfl ?_
    simp only [Act.put, pa, pb, pc]
    refine lv 14 rfl ⟨.int .u8 (p 78), fun w' hl => (run_get 5 _ rfl b 78 rfl Tryz.underlying5 rfl (.int .u8 (p 78)) ((HC.out.later hl).cell 78 (by decide))), ?_⟩
    simp only [Act.put, pa, pb, pc]
    refine l1 8 rfl fun wn hl K hK => ?_
    have HC := H_ (HC.out.later hl); have HB := H_ (below_on HB.out hl); clear hl
    refine we ?_
    refine (af_from b p c _ HC.out HM.out).mono ?_; rintro e wm ⟨rfl, rfl⟩; refine ⟨_, rfl, ?_⟩
    refine hK.out _ _ (Later.refl _) ?_
    clear hK K
    simp only [Act.put, pa, pb, pc]
    refine lv 9 rfl ⟨.int .i64 (c.m.f / 8), fun w' hl => ?_, ?_⟩
    ·(go_simp; first | exact HQ8.out | exact HQ8.out.trans gn2)
    simp only [Act.put, pa, pb, pc]
    refine l1 15 rfl fun wn hl K hK => ?_
    have HC := H_ (HC.out.later hl); have HB := H_ (below_on HB.out hl); clear hl
    refine we ?_
    refine (aheadK HA.out _).mono ?_; rintro e wm ⟨rfl, rfl⟩; refine ⟨_, rfl, ?_⟩
    refine hK.out _ _ (Later.refl _) ?_
    clear hK K
    simp only [Act.put, pa, pb, pc]
    refine lv 16 rfl ⟨.bool true, fun w' hl => ?_, ?_⟩
    ·(go_simp; try simp [gn2])
    simp only [Act.put, pa, pb, pc]
    refine lw 17 rfl ?_
    simp only [Act.put, pa, pb, pc]
    refine lw 18 rfl ?_
    simp only [Act.put, pa, pb, pc]
    refine lw 19 rfl ?_
    simp only [Act.put, pa, pb, pc]
    refine lv 20 rfl ⟨.bool false, fun w' hl => ?_, ?_⟩
    ·(go_simp; try simp [gn3])
    simp only [Act.put, pa, pb, pc]
    refine lw 21 rfl ?_
    simp only [Act.put, pa, pb, pc]
    refine lw 22 rfl ?_
    simp only [Act.put, pa, pb, pc]
    refine lv 23 rfl ⟨.bool z, fun w' hl => ?_, ?_⟩
    ·(go_simp; try simp [hz])
    simp only [Act.put, pa, pb, pc]
    refine lw 24 rfl ?_
    simp only [Act.put, pa, pb, pc]
    refine lw 25 rfl ?_
    simp only [Act.put, pa, pb, pc]
    refine lw 26 rfl ?_
    simp only [Act.put, pa, pb, pc]
    refine late_end (by kernel_rfl) (fun wn hl => ?_)
    have HC := H_ (HC.out.later hl); have HB := H_ (below_on HB.out hl); clear hl
    go_wp2_with fail
    go_ret
    exact ⟨rfl, HB.out⟩
   ·have gn3 : c.m.t - c.m.f = 16 := eq_of_beq g3
    go_enter Tryz.func140, Tryz.ntmps140
    go_wp2_with (first
     | (go_at_call 130; refine (af_from b _ c _ HC.out HM.out).mono ?_; rintro e w3 ⟨rfl, rfl⟩)
     | (go_at_call 129; refine (af_to b _ c _ HC.out HM.out).mono ?_; rintro e w3 ⟨rfl, rfl⟩))
    refine late_begin 27 (by kernel_rfl) ?_
    refine lw 0 rfl ?_
    simp only [Act.put, pa, pb, pc]
    refine lw 1 rfl ?_
    simp only [Act.put, pa, pb, pc]
    refine lw 2 rfl ?_
    simp only [Act.put, pa, pb, pc]
    refine lv 3 rfl ⟨.int .u8 c.x, fun w' hl => (run_get 5 _ rfl b 93 rfl Tryz.underlying5 rfl (.int .u8 c.x) ((HC.out.later hl).x)), ?_⟩
    simp only [Act.put, pa, pb, pc]
    refine l1 4 rfl fun wn hl K hK => ?_
    have HC := H_ (HC.out.later hl); have HB := H_ (below_on HB.out hl); clear hl
    refine we ?_
    refine (knd_any c.x _ (by omega) (by omega)).mono ?_; rintro e wm ⟨rfl, rfl⟩; refine ⟨_, rfl, ?_⟩
    refine hK.out _ _ (Later.refl _) ?_
    clear hK K
    simp only [Act.put, pa, pb, pc]
    refine lv 5 rfl ⟨.bool true, fun w' hl => ?_, ?_⟩
    ·(go_simp; try simp [gn])
    simp only [Act.put, pa, pb, pc]
    refine lw 6 rfl ?_
    simp only [Act.put, pa, pb, pc]
    refine lw 7 rfl ?_
    simp only [Act.put, pa, pb, pc]
    refine lw 10 rfl ?_
    simp only [Act.put, pa, pb, pc]
    refine lw 11 rfl ?_
    simp only [Act.put, pa, pb, pc]
    refine lw 12 rfl ?_
    simp only [Act.put, pa, pb, pc]
    refine lw 13 rfl ?_
    simp only [Act.put, pa, pb, pc]
    refine lv 14 rfl ⟨.int .u8 (p 78), fun w' hl => (run_get 5 _ rfl b 78 rfl Tryz.underlying5 rfl (.int .u8 (p 78)) ((HC.out.later hl).cell 78 (by decide))), ?_⟩
    simp only [Act.put, pa, pb, pc]
    refine l1 8 rfl fun wn hl K hK => ?_
    have HC := H_ (HC.out.later hl); have HB := H_ (below_on HB.out hl); clear hl
    refine we ?_
    refine (af_from b p c _ HC.out HM.out).mono ?_; rintro e wm ⟨rfl, rfl⟩; refine ⟨_, rfl, ?_⟩
    refine hK.out _ _ (Later.refl _) ?_
    clear hK K
    simp only [Act.put, pa, pb, pc]
    refine lv 9 rfl ⟨.int .i64 (c.m.f / 8), fun w' hl => ?_, ?_⟩
    ·(go_simp; first | exact HQ8.out | exact HQ8.out.trans gn2)
    simp only [Act.put, pa, pb, pc]
    refine l1 15 rfl fun wn hl K hK => ?_
    have HC := H_ (HC.out.later hl); have HB := H_ (below_on HB.out hl); clear hl
    refine we ?_
    refine (aheadK HA.out _).mono ?_; rintro e wm ⟨rfl, rfl⟩; refine ⟨_, rfl, ?_⟩
    refine hK.out _ _ (Later.refl _) ?_
    clear hK K
    simp only [Act.put, pa, pb, pc]
    refine lv 16 rfl ⟨.bool true, fun w' hl => ?_, ?_⟩
    ·(go_simp; try simp [gn2])
    simp only [Act.put, pa, pb, pc]
    refine lw 17 rfl ?_
    simp only [Act.put, pa, pb, pc]
    refine lw 18 rfl ?_
    simp only [Act.put, pa, pb, pc]
    refine lw 19 rfl ?_
    simp only [Act.put, pa, pb, pc]
    refine lv 20 rfl ⟨.bool true, fun w' hl => ?_, ?_⟩
    ·(go_simp; try simp [gn3])
    simp only [Act.put, pa, pb, pc]
    refine lw 21 rfl ?_
    simp only [Act.put, pa, pb, pc]
    refine lo 22 rfl ?_
    simp only [Act.put, pa, pb, pc]
    refine lo 23 rfl ?_
    simp only [Act.put, pa, pb, pc]
    refine lw 24 rfl ?_
    simp only [Act.put, pa, pb, pc]
    refine lw 25 rfl ?_
    simp only [Act.put, pa, pb, pc]
    refine lw 26 rfl ?_
    simp only [Act.put, pa, pb, pc]
    refine late_end (by kernel_rfl) (fun wn hl => ?_)
    have HC := H_ (HC.out.later hl); have HB := H_ (below_on HB.out hl); clear hl
    go_wp2_with fail
    go_ret
    exact ⟨rfl, HB.out⟩
theorem sizeIn : (Tryz.prog.info? 3).map (·.size) = some 1 := by kernel_rfl
theorem WfP.i64 {p : Nat → Int} (h : WfP p) {i : Nat} (h0 : 86 ≤ i) (h1 : i < 88) : -9223372036854775808 ≤ p i ∧ p i ≤ 9223372036854775807 := by
 have := af_of (h i h1)
 have e : kAt i = .i64 := by unfold kAt; rw [if_neg (by omega), if_neg (by omega), if_pos h0]
 rw [e] at this
 exact this
theorem hal_out {p : Nat → Int} (c : Ch) {j : Nat} (h : j ≠ 86) : halA p c j = p j := by
 unfold halA
 cases (kndZ c.x == 1) || !(c.k == -1)
 ·exact upd_other _ _ _ _ h
 ·exact (upd_other _ _ _ _ h).trans (upd_other _ _ _ _ h)
theorem clo_out {p : Nat → Int} (c : Ch) {j : Nat} (h : j < 86) : cloA p c j = p j := by
 unfold cloA
 cases p 78 == 1
 ·exact hal_out c (by omega)
 ·exact (upd_other _ _ _ _ (by omega)).trans (hal_out c (by omega))
theorem one_rng {n : Int} (h : -9223372036854775808 ≤ n ∧ n ≤ 9223372036854775807) : IntKind.i64.min ≤ oneZ n ∧ oneZ n ≤ IntKind.i64.max := by
 have a : IntKind.i64.min = -9223372036854775808 := by decide
 have b : IntKind.i64.max = 9223372036854775807 := by decide
 rw [a, b]
 unfold oneZ
 cases g : decide (10000 ≤ n)
 ·have := of_decide_eq_false g; simp only [cond_false]; omega
 ·exact h
theorem ChR.clo {p : Nat → Int} {c : Ch} (h : ChR p c) : ChR (cloA p c) c := by
 have hh : WfP (halA p c) := by
  unfold halA
  have h1 : WfP (upd p 86 (oneZ (p 86))) := h.wf.up 86 _ (af_wf (one_rng (h.wf.i64 (by decide) (by decide))))
  cases (kndZ c.x == 1) || !(c.k == -1)
  ·exact h1
  ·exact h1.up 86 0 (by decide)
 refine h.to ?_ (clo_out c (by decide))
 unfold cloA
 cases p 78 == 1
 ·exact hh
 ·exact hh.up 87 _ (af_wf (one_rng (h.wf.i64 (by decide) (by decide))))
theorem af_clocks (b : Nat) (p : Nat → Int) (c : Ch) (w : World) (hC : CH w b p c) (hR : ChR p c) : Calls Tryz.prog 69 #[.pointer (some ⟨b, 0, none⟩)] w (AfL b (cloA p c) c w) := by
 have HC := H_ hC
 have HM := H_ hR.m
 have HR := H_ hR
 have hx := hR.x
 have hf := hR.f
 have ht := hR.t
 clear hC hR
 have hh := HR.out.wf.i64 (i := 86) (by decide) (by decide)
 have hg := HR.out.wf.i64 (i := 87) (by decide) (by decide)
 have HB := H_ (Kept.refl (fun k => k = b) w)
 rcases HR.out.turn with h78 | h78
 ·have H78 := H_ h78
  cases g1 : (kndZ c.x == 1)
  ·have gn : kndZ c.x ≠ 1 := beq_eq_false_iff_ne.1 g1
   cases g2 : (c.k == -1)
   ·have HF := H_ (show cloA p c = upd (upd p 86 (oneZ (p 86))) 86 0 by unfold cloA halA; rw [g1, g2, h78]; rfl)
    clear h78
    go_enter Tryz.func69, Tryz.ntmps69
    go_wp2_with (first
     | (refine step_get rfl 3 _ rfl b 86 rfl Tryz.underlying3 rfl (.int .i64 (p 86)) (HC.out.cell 86 (by decide)) ?_)
     | (go_at_call 143; refine (af_more _ _ (by omega)).mono ?_; rintro e w3 ⟨rfl, rfl⟩)
     | (refine step_get rfl 5 _ rfl b 93 rfl Tryz.underlying5 rfl (.int .u8 c.x) (HC.out.x) ?_)
     | (go_at_call 138; refine (knd_any _ _ (by omega) (by omega)).mono ?_; rintro e w3 ⟨rfl, rfl⟩)
     | (go_at_call 136; refine (af_takes b _ c _ HC.out).mono ?_; rintro e w3 ⟨rfl, rfl⟩)
     | (refine step_get rfl 5 _ rfl b 78 rfl Tryz.underlying5 rfl (.int .u8 (0)) ((HC.out.cell 78 (by decide)).trans (by rw [upd_other _ _ _ _ (show (78 : Nat) ≠ 86 by decide), upd_other _ _ _ _ (show (78 : Nat) ≠ 86 by decide), H78.out]; rfl)) ?_)
     | (guard_target = Go.wpList _ _ _ ((⟨none, .store _ _ (.const _), _, _, _, _⟩ : Go.Oper) :: _) _ _; refine ch_cell rfl 3 _ _ rfl 86 rfl .i64 0 rfl HC.out (by decide) rfl sizeIn ?_; intro wn U R; have HC := H_ R; have HB := H_ (kept_upd HB.out U); clear U R)
     | (guard_target = gS 11; refine ch_cell rfl 3 _ _ rfl 86 rfl .i64 _ rfl HC.out (by decide) rfl sizeIn ?_; intro wn U R; have HC := H_ R; have HB := H_ (kept_upd HB.out U); clear U R))
    refine bodyPost_end (results_none rfl _ _ _) rfl ?_
    exact ⟨⟨_, rfl⟩, by rw [HF.out]; exact HC.out, HB.out⟩
   ·have HF := H_ (show cloA p c = upd p 86 (oneZ (p 86)) by unfold cloA halA; rw [g1, g2, h78]; rfl)
    clear h78
    go_enter Tryz.func69, Tryz.ntmps69
    go_wp2_with (first
     | (refine step_get rfl 3 _ rfl b 86 rfl Tryz.underlying3 rfl (.int .i64 (p 86)) (HC.out.cell 86 (by decide)) ?_)
     | (go_at_call 143; refine (af_more _ _ (by omega)).mono ?_; rintro e w3 ⟨rfl, rfl⟩)
     | (refine step_get rfl 5 _ rfl b 93 rfl Tryz.underlying5 rfl (.int .u8 c.x) (HC.out.x) ?_)
     | (go_at_call 138; refine (knd_any _ _ (by omega) (by omega)).mono ?_; rintro e w3 ⟨rfl, rfl⟩)
     | (go_at_call 136; refine (af_takes b _ c _ HC.out).mono ?_; rintro e w3 ⟨rfl, rfl⟩)
     | (refine step_get rfl 5 _ rfl b 78 rfl Tryz.underlying5 rfl (.int .u8 (0)) ((HC.out.cell 78 (by decide)).trans (by rw [upd_other _ _ _ _ (show (78 : Nat) ≠ 86 by decide), H78.out]; rfl)) ?_)
     | (guard_target = Go.wpList _ _ _ ((⟨none, .store _ _ (.const _), _, _, _, _⟩ : Go.Oper) :: _) _ _; refine ch_cell rfl 3 _ _ rfl 86 rfl .i64 0 rfl HC.out (by decide) rfl sizeIn ?_; intro wn U R; have HC := H_ R; have HB := H_ (kept_upd HB.out U); clear U R)
     | (guard_target = gS 11; refine ch_cell rfl 3 _ _ rfl 86 rfl .i64 _ rfl HC.out (by decide) rfl sizeIn ?_; intro wn U R; have HC := H_ R; have HB := H_ (kept_upd HB.out U); clear U R))
    refine bodyPost_end (results_none rfl _ _ _) rfl ?_
    exact ⟨⟨_, rfl⟩, by rw [HF.out]; exact HC.out, HB.out⟩
  ·have gn : kndZ c.x = 1 := eq_of_beq g1
   have HF := H_ (show cloA p c = upd (upd p 86 (oneZ (p 86))) 86 0 by unfold cloA halA; rw [g1, h78]; rfl)
   clear h78
   go_enter Tryz.func69, Tryz.ntmps69
   go_wp2_with (first
    | (refine step_get rfl 3 _ rfl b 86 rfl Tryz.underlying3 rfl (.int .i64 (p 86)) (HC.out.cell 86 (by decide)) ?_)
    | (go_at_call 143; refine (af_more _ _ (by omega)).mono ?_; rintro e w3 ⟨rfl, rfl⟩)
    | (refine step_get rfl 5 _ rfl b 93 rfl Tryz.underlying5 rfl (.int .u8 c.x) (HC.out.x) ?_)
    | (go_at_call 138; refine (knd_any _ _ (by omega) (by omega)).mono ?_; rintro e w3 ⟨rfl, rfl⟩)
    | (refine step_get rfl 5 _ rfl b 78 rfl Tryz.underlying5 rfl (.int .u8 (0)) ((HC.out.cell 78 (by decide)).trans (by rw [upd_other _ _ _ _ (show (78 : Nat) ≠ 86 by decide), upd_other _ _ _ _ (show (78 : Nat) ≠ 86 by decide), H78.out]; rfl)) ?_)
    | (guard_target = Go.wpList _ _ _ ((⟨none, .store _ _ (.const _), _, _, _, _⟩ : Go.Oper) :: _) _ _; refine ch_cell rfl 3 _ _ rfl 86 rfl .i64 0 rfl HC.out (by decide) rfl sizeIn ?_; intro wn U R; have HC := H_ R; have HB := H_ (kept_upd HB.out U); clear U R)
    | (guard_target = gS 11; refine ch_cell rfl 3 _ _ rfl 86 rfl .i64 _ rfl HC.out (by decide) rfl sizeIn ?_; intro wn U R; have HC := H_ R; have HB := H_ (kept_upd HB.out U); clear U R))
   refine bodyPost_end (results_none rfl _ _ _) rfl ?_
   exact ⟨⟨_, rfl⟩, by rw [HF.out]; exact HC.out, HB.out⟩
 ·have H78 := H_ h78
  cases g1 : (kndZ c.x == 1)
  ·have gn : kndZ c.x ≠ 1 := beq_eq_false_iff_ne.1 g1
   cases g2 : (c.k == -1)
   ·have HF := H_ (show cloA p c = upd (upd (upd p 86 (oneZ (p 86))) 86 0) 87 (oneZ (p 87)) by unfold cloA halA; rw [g1, g2, h78]; rfl)
    clear h78
    go_enter Tryz.func69, Tryz.ntmps69
    go_wp2_with (first
     | (refine step_get rfl 3 _ rfl b 86 rfl Tryz.underlying3 rfl (.int .i64 (p 86)) (HC.out.cell 86 (by decide)) ?_)
     | (go_at_call 143; refine (af_more _ _ (by omega)).mono ?_; rintro e w3 ⟨rfl, rfl⟩)
     | (refine step_get rfl 5 _ rfl b 93 rfl Tryz.underlying5 rfl (.int .u8 c.x) (HC.out.x) ?_)
     | (go_at_call 138; refine (knd_any _ _ (by omega) (by omega)).mono ?_; rintro e w3 ⟨rfl, rfl⟩)
     | (go_at_call 136; refine (af_takes b _ c _ HC.out).mono ?_; rintro e w3 ⟨rfl, rfl⟩)
     | (refine step_get rfl 5 _ rfl b 78 rfl Tryz.underlying5 rfl (.int .u8 (1)) ((HC.out.cell 78 (by decide)).trans (by rw [upd_other _ _ _ _ (show (78 : Nat) ≠ 86 by decide), upd_other _ _ _ _ (show (78 : Nat) ≠ 86 by decide), H78.out]; rfl)) ?_)
     | (refine step_get rfl 3 _ rfl b 87 rfl Tryz.underlying3 rfl (.int .i64 (p 87)) ((HC.out.cell 87 (by decide)).trans (by rw [upd_other _ _ _ _ (show (87 : Nat) ≠ 86 by decide), upd_other _ _ _ _ (show (87 : Nat) ≠ 86 by decide)]; rfl)) ?_)
     | (guard_target = Go.wpList _ _ _ ((⟨none, .store _ _ (.const _), _, _, _, _⟩ : Go.Oper) :: _) _ _; refine ch_cell rfl 3 _ _ rfl 86 rfl .i64 0 rfl HC.out (by decide) rfl sizeIn ?_; intro wn U R; have HC := H_ R; have HB := H_ (kept_upd HB.out U); clear U R)
     | (guard_target = gS 11; refine ch_cell rfl 3 _ _ rfl 86 rfl .i64 _ rfl HC.out (by decide) rfl sizeIn ?_; intro wn U R; have HC := H_ R; have HB := H_ (kept_upd HB.out U); clear U R)
     | (guard_target = gS 41; refine ch_cell rfl 3 _ _ rfl 87 rfl .i64 _ rfl HC.out (by decide) rfl sizeIn ?_; intro wn U R; have HC := H_ R; have HB := H_ (kept_upd HB.out U); clear U R))
    refine bodyPost_end (results_none rfl _ _ _) rfl ?_
    exact ⟨⟨_, rfl⟩, by rw [HF.out]; exact HC.out, HB.out⟩
   ·have HF := H_ (show cloA p c = upd (upd p 86 (oneZ (p 86))) 87 (oneZ (p 87)) by unfold cloA halA; rw [g1, g2, h78]; rfl)
    clear h78
    go_enter Tryz.func69, Tryz.ntmps69
    go_wp2_with (first
     | (refine step_get rfl 3 _ rfl b 86 rfl Tryz.underlying3 rfl (.int .i64 (p 86)) (HC.out.cell 86 (by decide)) ?_)
     | (go_at_call 143; refine (af_more _ _ (by omega)).mono ?_; rintro e w3 ⟨rfl, rfl⟩)
     | (refine step_get rfl 5 _ rfl b 93 rfl Tryz.underlying5 rfl (.int .u8 c.x) (HC.out.x) ?_)
     | (go_at_call 138; refine (knd_any _ _ (by omega) (by omega)).mono ?_; rintro e w3 ⟨rfl, rfl⟩)
     | (go_at_call 136; refine (af_takes b _ c _ HC.out).mono ?_; rintro e w3 ⟨rfl, rfl⟩)
     | (refine step_get rfl 5 _ rfl b 78 rfl Tryz.underlying5 rfl (.int .u8 (1)) ((HC.out.cell 78 (by decide)).trans (by rw [upd_other _ _ _ _ (show (78 : Nat) ≠ 86 by decide), H78.out]; rfl)) ?_)
     | (refine step_get rfl 3 _ rfl b 87 rfl Tryz.underlying3 rfl (.int .i64 (p 87)) ((HC.out.cell 87 (by decide)).trans (by rw [upd_other _ _ _ _ (show (87 : Nat) ≠ 86 by decide)]; rfl)) ?_)
     | (guard_target = Go.wpList _ _ _ ((⟨none, .store _ _ (.const _), _, _, _, _⟩ : Go.Oper) :: _) _ _; refine ch_cell rfl 3 _ _ rfl 86 rfl .i64 0 rfl HC.out (by decide) rfl sizeIn ?_; intro wn U R; have HC := H_ R; have HB := H_ (kept_upd HB.out U); clear U R)
     | (guard_target = gS 11; refine ch_cell rfl 3 _ _ rfl 86 rfl .i64 _ rfl HC.out (by decide) rfl sizeIn ?_; intro wn U R; have HC := H_ R; have HB := H_ (kept_upd HB.out U); clear U R)
     | (guard_target = gS 41; refine ch_cell rfl 3 _ _ rfl 87 rfl .i64 _ rfl HC.out (by decide) rfl sizeIn ?_; intro wn U R; have HC := H_ R; have HB := H_ (kept_upd HB.out U); clear U R))
    refine bodyPost_end (results_none rfl _ _ _) rfl ?_
    exact ⟨⟨_, rfl⟩, by rw [HF.out]; exact HC.out, HB.out⟩
  ·have gn : kndZ c.x = 1 := eq_of_beq g1
   have HF := H_ (show cloA p c = upd (upd (upd p 86 (oneZ (p 86))) 86 0) 87 (oneZ (p 87)) by unfold cloA halA; rw [g1, h78]; rfl)
   clear h78
   go_enter Tryz.func69, Tryz.ntmps69
   go_wp2_with (first
    | (refine step_get rfl 3 _ rfl b 86 rfl Tryz.underlying3 rfl (.int .i64 (p 86)) (HC.out.cell 86 (by decide)) ?_)
    | (go_at_call 143; refine (af_more _ _ (by omega)).mono ?_; rintro e w3 ⟨rfl, rfl⟩)
    | (refine step_get rfl 5 _ rfl b 93 rfl Tryz.underlying5 rfl (.int .u8 c.x) (HC.out.x) ?_)
    | (go_at_call 138; refine (knd_any _ _ (by omega) (by omega)).mono ?_; rintro e w3 ⟨rfl, rfl⟩)
    | (refine step_get rfl 5 _ rfl b 78 rfl Tryz.underlying5 rfl (.int .u8 (1)) ((HC.out.cell 78 (by decide)).trans (by rw [upd_other _ _ _ _ (show (78 : Nat) ≠ 86 by decide), upd_other _ _ _ _ (show (78 : Nat) ≠ 86 by decide), H78.out]; rfl)) ?_)
    | (refine step_get rfl 3 _ rfl b 87 rfl Tryz.underlying3 rfl (.int .i64 (p 87)) ((HC.out.cell 87 (by decide)).trans (by rw [upd_other _ _ _ _ (show (87 : Nat) ≠ 86 by decide), upd_other _ _ _ _ (show (87 : Nat) ≠ 86 by decide)]; rfl)) ?_)
    | (guard_target = Go.wpList _ _ _ ((⟨none, .store _ _ (.const _), _, _, _, _⟩ : Go.Oper) :: _) _ _; refine ch_cell rfl 3 _ _ rfl 86 rfl .i64 0 rfl HC.out (by decide) rfl sizeIn ?_; intro wn U R; have HC := H_ R; have HB := H_ (kept_upd HB.out U); clear U R)
    | (guard_target = gS 11; refine ch_cell rfl 3 _ _ rfl 86 rfl .i64 _ rfl HC.out (by decide) rfl sizeIn ?_; intro wn U R; have HC := H_ R; have HB := H_ (kept_upd HB.out U); clear U R)
    | (guard_target = gS 41; refine ch_cell rfl 3 _ _ rfl 87 rfl .i64 _ rfl HC.out (by decide) rfl sizeIn ?_; intro wn U R; have HC := H_ R; have HB := H_ (kept_upd HB.out U); clear U R))
   refine bodyPost_end (results_none rfl _ _ _) rfl ?_
   exact ⟨⟨_, rfl⟩, by rw [HF.out]; exact HC.out, HB.out⟩
end Go.Proofs.YteblmnbagbdiiaaGreatDoor
/-
 Layer 16: contract of the change's pass.
-/
namespace Go.Proofs.YteblmnbagbdiiaaGreatDoor
open Go.RowKit Go.Shelf
set_option linter.unusedVariables false
set_option linter.unusedSimpArgs false
attribute [local go_sem] Oper.semAt_some

theorem strodeK {p : Nat → Int} {c : Ch} {x : Bool} (e : strB' p c = x) (b : Nat) (w : World) (hC : CH w b p c) (hR : ChR p c) : Calls Tryz.prog 140 #[.pointer (some ⟨b, 0, none⟩)] w (BoL x w) := e ▸ af_strode b p c w hC hR
theorem pas_out {p : Nat → Int} (c : Ch) {j : Nat} (h : j ≠ 83) : pasA p c j = p j := by
 unfold pasA
 cases pasB (upd p 83 (-1)) c
 ·exact upd_other _ _ _ _ h
 ·exact (upd_other _ _ _ _ h).trans (upd_other _ _ _ _ h)
theorem half_rng {c : Ch} {p : Nat → Int} (h : ChR p c) : 0 ≤ (c.m.f + c.m.t) / 2 ∧ (c.m.f + c.m.t) / 2 < 64 := by
 have := h.f; have := h.t
 omega
theorem ChR.pas {p : Nat → Int} {c : Ch} (h : ChR p c) : ChR (pasA p c) c := by
 refine h.to ?_ (pas_out c (by decide))
 unfold pasA
 cases pasB (upd p 83 (-1)) c
 ·exact h.wf.no1 (by decide) (by decide)
 ·have := half_rng h
  exact (h.wf.no1 (i := 83) (by decide) (by decide)).up 83 _ (by rw [kAt_i8A (by decide) (by decide)]; exact wf_i8A ⟨by omega, by omega⟩)
theorem af_pass (b : Nat) (p : Nat → Int) (c : Ch) (w : World) (hC : CH w b p c) (hR : ChR p c) (hT : AfT b w) : Calls Tryz.prog 68 #[.pointer (some ⟨b, 0, none⟩)] w (AfL b (pasA p c) c w) := by
 have HC := H_ hC
 have HM := H_ hR.m
 have HR := H_ hR
 have hx := hR.x
 have hf := hR.f
 have ht := hR.t
 have HT := H_ hT
 clear hC hR hT
 have hbr := half_rng HR.out
 have htd := tdiv_in (c.m.f + c.m.t) 2 (by omega) (by omega) (by decide)
 have hwa : wrap64 (c.m.f + c.m.t) = c.m.f + c.m.t := IntWalk.wrap64_in _ ⟨by omega, by omega⟩
 unfold pasA pasB
 obtain ⟨q, hq⟩ : ∃ q, upd p 83 (-1) = q := ⟨_, rfl⟩
 have HQ := H_ (show ChR q c by rw [← hq]; exact HR.out.to (HR.out.wf.no1 (by decide) (by decide)) (upd_other _ _ _ _ (by decide)))
 have HQe := H_ hq
 rw [hq]
 have hwb : IntKind.i8.wrap ((c.m.f + c.m.t) / 2) = ((c.m.f + c.m.t) / 2) := IntWalk.i8_in _ ⟨by omega, by omega⟩
 have HAn := H_ (and_nat (byN_lt q ((c.m.f + c.m.t) / 2) (oth (q 78))) (ofN_lt q (oth (q 78)) 1))
 obtain ⟨x, hx⟩ : ∃ x, strB' q c = x := ⟨_, rfl⟩
 have HX := H_ hx
 obtain ⟨N, hN⟩ : ∃ N, byN q ((c.m.f + c.m.t) / 2) (oth (q 78)) &&& ofN q (oth (q 78)) 1 = N := ⟨_, rfl⟩
 rw [hN] at HAn
 rw [hx, hN]
 clear hq hx hN
 have HB := H_ (Kept.refl (fun k => k = b) w)
 cases x
 ·go_enter Tryz.func68, Tryz.ntmps68
  go_wp2_with (first
   | (refine ch_cell rfl 26 _ _ rfl 83 rfl .i8 (-1) rfl HC.out (by decide) rfl size26 ?_; intro wn U R; have HC := H_ (show CH wn b q c by rw [← HQe.out]; exact R); have HB := H_ (kept_upd HB.out U); clear U R)
   | (go_at_call 130; refine (af_from b _ c _ HC.out HM.out).mono ?_; rintro e w3 ⟨rfl, rfl⟩)
   | (go_at_call 129; refine (af_to b _ c _ HC.out HM.out).mono ?_; rintro e w3 ⟨rfl, rfl⟩))
  refine late_begin 29 (by kernel_rfl) ?_
  refine lw 0 rfl ?_
  simp only [Act.put, pa, pb, pc]
  refine l1 1 rfl fun wn hl K hK => ?_
  have HC := H_ (HC.out.later hl); have HB := H_ (kept_on HB.out hl); clear hl
  refine we ?_
  refine (strodeK HX.out b _ HC.out HQ.out).mono ?_; rintro e wm ⟨rfl, hb⟩; refine ⟨_, rfl, ?_⟩
  refine hK.out _ _ hb ?_
  have HC := H_ (HC.out.later hb); have HB := H_ (kept_on HB.out hb); clear hb
  clear hK K
  simp only [Act.put, pa, pb, pc]
  refine lw 2 rfl ?_
  simp only [Act.put, pa, pb, pc]
  refine lo 3 rfl ?_
  simp only [Act.put, pa, pb, pc]
  refine lo 4 rfl ?_
  simp only [Act.put, pa, pb, pc]
  refine lo 5 rfl ?_
  simp only [Act.put, pa, pb, pc]
  refine lo 6 rfl ?_
  simp only [Act.put, pa, pb, pc]
  refine lo 7 rfl ?_
  simp only [Act.put, pa, pb, pc]
  refine lo 8 rfl ?_
  simp only [Act.put, pa, pb, pc]
  refine lo 9 rfl ?_
  simp only [Act.put, pa, pb, pc]
  refine lo 10 rfl ?_
  simp only [Act.put, pa, pb, pc]
  refine lo 11 rfl ?_
  simp only [Act.put, pa, pb, pc]
  refine lo 12 rfl ?_
  simp only [Act.put, pa, pb, pc]
  refine lo 13 rfl ?_
  simp only [Act.put, pa, pb, pc]
  refine lo 14 rfl ?_
  simp only [Act.put, pa, pb, pc]
  refine lo 15 rfl ?_
  simp only [Act.put, pa, pb, pc]
  refine lo 16 rfl ?_
  simp only [Act.put, pa, pb, pc]
  refine lo 17 rfl ?_
  simp only [Act.put, pa, pb, pc]
  refine lo 18 rfl ?_
  simp only [Act.put, pa, pb, pc]
  refine lo 19 rfl ?_
  simp only [Act.put, pa, pb, pc]
  refine lo 20 rfl ?_
  simp only [Act.put, pa, pb, pc]
  refine lo 21 rfl ?_
  simp only [Act.put, pa, pb, pc]
  refine lo 22 rfl ?_
  simp only [Act.put, pa, pb, pc]
  refine lo 23 rfl ?_
  simp only [Act.put, pa, pb, pc]
  refine lo 24 rfl ?_
  simp only [Act.put, pa, pb, pc]
  refine lo 25 rfl ?_
  simp only [Act.put, pa, pb, pc]
  refine lo 26 rfl ?_
  simp only [Act.put, pa, pb, pc]
  refine lo 27 rfl ?_
  simp only [Act.put, pa, pb, pc]
  refine lw 28 rfl ?_
  simp only [Act.put, pa, pb, pc]
  refine late_end (by kernel_rfl) (fun wn hl => ?_)
  have HC := H_ (HC.out.later hl); have HB := H_ (kept_on HB.out hl); clear hl
  go_wp2_with fail
  refine bodyPost_end (results_none rfl _ _ _) rfl ?_
  exact ⟨⟨_, rfl⟩, HC.out, HB.out⟩
 ·cases g : (N == 0)
  ·have gn : N ≠ 0 := beq_eq_false_iff_ne.1 g
   go_enter Tryz.func68, Tryz.ntmps68
   go_wp2_with (first
    | (refine ch_cell rfl 26 _ _ rfl 83 rfl .i8 (-1) rfl HC.out (by decide) rfl size26 ?_; intro wn U R; have HC := H_ (show CH wn b q c by rw [← HQe.out]; exact R); have HB := H_ (kept_upd HB.out U); clear U R)
    | (go_at_call 130; refine (af_from b _ c _ HC.out HM.out).mono ?_; rintro e w3 ⟨rfl, rfl⟩)
    | (go_at_call 129; refine (af_to b _ c _ HC.out HM.out).mono ?_; rintro e w3 ⟨rfl, rfl⟩))
   refine late_begin 29 (by kernel_rfl) ?_
   refine lw 0 rfl ?_
   simp only [Act.put, pa, pb, pc]
   refine l1 1 rfl fun wn hl K hK => ?_
   have HC := H_ (HC.out.later hl); have HB := H_ (kept_on HB.out hl); clear hl
   refine we ?_
   refine (strodeK HX.out b _ HC.out HQ.out).mono ?_; rintro e wm ⟨rfl, hb⟩; refine ⟨_, rfl, ?_⟩
   refine hK.out _ _ hb ?_
   have HC := H_ (HC.out.later hb); have HB := H_ (kept_on HB.out hb); clear hb
   clear hK K
   simp only [Act.put, pa, pb, pc]
   refine lw 2 rfl ?_
   simp only [Act.put, pa, pb, pc]
   refine lw 3 rfl ?_
   simp only [Act.put, pa, pb, pc]
   refine lw 4 rfl ?_
   simp only [Act.put, pa, pb, pc]
   refine lw 5 rfl ?_
   simp only [Act.put, pa, pb, pc]
   refine lv 6 rfl ⟨.agg (posA (q)), fun w' hl => (run_chp _ rfl b rfl (q) c (HC.out.later hl)), ?_⟩
   simp only [Act.put, pa, pb, pc]
   refine lw 7 rfl ?_
   simp only [Act.put, pa, pb, pc]
   refine lw 8 rfl ?_
   simp only [Act.put, pa, pb, pc]
   refine lw 9 rfl ?_
   simp only [Act.put, pa, pb, pc]
   refine lw 10 rfl ?_
   simp only [Act.put, pa, pb, pc]
   refine lw 11 rfl ?_
   simp only [Act.put, pa, pb, pc]
   refine lv 12 rfl ⟨.int .u8 (q 78), fun w' hl => (run_get 5 _ rfl b 78 rfl Tryz.underlying5 rfl (.int .u8 (q 78)) ((HC.out.later hl).cell 78 (by decide))), ?_⟩
   simp only [Act.put, pa, pb, pc]
   refine lw 15 rfl ?_
   simp only [Act.put, pa, pb, pc]
   refine lw 16 rfl ?_
   simp only [Act.put, pa, pb, pc]
   refine lw 17 rfl ?_
   simp only [Act.put, pa, pb, pc]
   refine lv 18 rfl ⟨.agg (posA (q)), fun w' hl => (run_chp _ rfl b rfl (q) c (HC.out.later hl)), ?_⟩
   simp only [Act.put, pa, pb, pc]
   refine lw 19 rfl ?_
   simp only [Act.put, pa, pb, pc]
   refine lw 20 rfl ?_
   simp only [Act.put, pa, pb, pc]
   refine lw 21 rfl ?_
   simp only [Act.put, pa, pb, pc]
   refine lw 22 rfl ?_
   simp only [Act.put, pa, pb, pc]
   refine lv 23 rfl ⟨.int .u8 (q 78), fun w' hl => (run_get 5 _ rfl b 78 rfl Tryz.underlying5 rfl (.int .u8 (q 78)) ((HC.out.later hl).cell 78 (by decide))), ?_⟩
   simp only [Act.put, pa, pb, pc]
   refine l1 13 rfl fun wn hl K hK => ?_
   have HC := H_ (HC.out.later hl); have HB := H_ (kept_on HB.out hl); clear hl
   refine we ?_
   refine (af_other (q 78) _).mono ?_; rintro e wm ⟨rfl, rfl⟩; refine ⟨_, rfl, ?_⟩
   refine hK.out _ _ (Later.refl _) ?_
   clear hK K
   simp only [Act.put, pa, pb, pc]
   refine l1 14 rfl fun wn hl K hK => ?_
   have HC := H_ (HC.out.later hl); have HB := H_ (kept_on HB.out hl); clear hl
   refine we ?_
   refine (by_any q ((c.m.f + c.m.t) / 2) (oth (q 78)) _ HQ.out.wf.dr.bd (oth_u8 _).1 (HT.out.at HB.out).db (HT.out.at HB.out).lead).mono ?_; rintro e wm ⟨rfl, hb⟩; refine ⟨_, rfl, ?_⟩
   refine hK.out _ _ hb ?_
   have HC := H_ (HC.out.later hb); have HB := H_ (kept_on HB.out hb); clear hb
   clear hK K
   simp only [Act.put, pa, pb, pc]
   refine l1 24 rfl fun wn hl K hK => ?_
   have HC := H_ (HC.out.later hl); have HB := H_ (kept_on HB.out hl); clear hl
   refine we ?_
   refine (af_other (q 78) _).mono ?_; rintro e wm ⟨rfl, rfl⟩; refine ⟨_, rfl, ?_⟩
   refine hK.out _ _ (Later.refl _) ?_
   clear hK K
   simp only [Act.put, pa, pb, pc]
   refine l1 25 rfl fun wn hl K hK => ?_
   have HC := H_ (HC.out.later hl); have HB := H_ (kept_on HB.out hl); clear hl
   refine we ?_
   refine (of_any q (oth (q 78)) 1 _ HQ.out.wf.dr.bd).mono ?_; rintro e wm ⟨rfl, hb⟩; refine ⟨_, rfl, ?_⟩
   refine hK.out _ _ hb ?_
   have HC := H_ (HC.out.later hb); have HB := H_ (kept_on HB.out hb); clear hb
   clear hK K
   simp only [Act.put, pa, pb, pc]
   refine lv 26 rfl ⟨.int .u64 ((N : Nat) : Int), fun w' hl => ?_, ?_⟩
   ·(go_simp; first | exact HAn.out | exact HAn.out.trans (by rw [gn]; rfl))
   simp only [Act.put, pa, pb, pc]
   refine lv 27 rfl ⟨.bool true, fun w' hl => ?_, ?_⟩
   ·(go_simp; try simp [gn])
   simp only [Act.put, pa, pb, pc]
   refine lw 28 rfl ?_
   simp only [Act.put, pa, pb, pc]
   refine late_end (by kernel_rfl) (fun wn hl => ?_)
   have HC := H_ (HC.out.later hl); have HB := H_ (kept_on HB.out hl); clear hl
   go_wp2_with (refine ch_cell rfl 26 _ _ rfl 83 rfl .i8 ((c.m.f + c.m.t) / 2) rfl HC.out (by decide) rfl size26 ?_; intro wn U R; have HC := H_ R; have HB := H_ (kept_upd HB.out U); clear U R)
   refine bodyPost_end (results_none rfl _ _ _) rfl ?_
   exact ⟨⟨_, rfl⟩, HC.out, HB.out⟩
  ·have gn : N = 0 := eq_of_beq g
   go_enter Tryz.func68, Tryz.ntmps68
   go_wp2_with (first
    | (refine ch_cell rfl 26 _ _ rfl 83 rfl .i8 (-1) rfl HC.out (by decide) rfl size26 ?_; intro wn U R; have HC := H_ (show CH wn b q c by rw [← HQe.out]; exact R); have HB := H_ (kept_upd HB.out U); clear U R)
    | (go_at_call 130; refine (af_from b _ c _ HC.out HM.out).mono ?_; rintro e w3 ⟨rfl, rfl⟩)
    | (go_at_call 129; refine (af_to b _ c _ HC.out HM.out).mono ?_; rintro e w3 ⟨rfl, rfl⟩))
   refine late_begin 29 (by kernel_rfl) ?_
   refine lw 0 rfl ?_
   simp only [Act.put, pa, pb, pc]
   refine l1 1 rfl fun wn hl K hK => ?_
   have HC := H_ (HC.out.later hl); have HB := H_ (kept_on HB.out hl); clear hl
   refine we ?_
   refine (strodeK HX.out b _ HC.out HQ.out).mono ?_; rintro e wm ⟨rfl, hb⟩; refine ⟨_, rfl, ?_⟩
   refine hK.out _ _ hb ?_
   have HC := H_ (HC.out.later hb); have HB := H_ (kept_on HB.out hb); clear hb
   clear hK K
   simp only [Act.put, pa, pb, pc]
   refine lw 2 rfl ?_
   simp only [Act.put, pa, pb, pc]
   refine lw 3 rfl ?_
   simp only [Act.put, pa, pb, pc]
   refine lw 4 rfl ?_
   simp only [Act.put, pa, pb, pc]
   refine lw 5 rfl ?_
   simp only [Act.put, pa, pb, pc]
   refine lv 6 rfl ⟨.agg (posA (q)), fun w' hl => (run_chp _ rfl b rfl (q) c (HC.out.later hl)), ?_⟩
   simp only [Act.put, pa, pb, pc]
   refine lw 7 rfl ?_
   simp only [Act.put, pa, pb, pc]
   refine lw 8 rfl ?_
   simp only [Act.put, pa, pb, pc]
   refine lw 9 rfl ?_
   simp only [Act.put, pa, pb, pc]
   refine lw 10 rfl ?_
   simp only [Act.put, pa, pb, pc]
   refine lw 11 rfl ?_
   simp only [Act.put, pa, pb, pc]
   refine lv 12 rfl ⟨.int .u8 (q 78), fun w' hl => (run_get 5 _ rfl b 78 rfl Tryz.underlying5 rfl (.int .u8 (q 78)) ((HC.out.later hl).cell 78 (by decide))), ?_⟩
   simp only [Act.put, pa, pb, pc]
   refine lw 15 rfl ?_
   simp only [Act.put, pa, pb, pc]
   refine lw 16 rfl ?_
   simp only [Act.put, pa, pb, pc]
   refine lw 17 rfl ?_
   simp only [Act.put, pa, pb, pc]
   refine lv 18 rfl ⟨.agg (posA (q)), fun w' hl => (run_chp _ rfl b rfl (q) c (HC.out.later hl)), ?_⟩
   simp only [Act.put, pa, pb, pc]
   refine lw 19 rfl ?_
   simp only [Act.put, pa, pb, pc]
   refine lw 20 rfl ?_
   simp only [Act.put, pa, pb, pc]
   refine lw 21 rfl ?_
   simp only [Act.put, pa, pb, pc]
   refine lw 22 rfl ?_
   simp only [Act.put, pa, pb, pc]
   refine lv 23 rfl ⟨.int .u8 (q 78), fun w' hl => (run_get 5 _ rfl b 78 rfl Tryz.underlying5 rfl (.int .u8 (q 78)) ((HC.out.later hl).cell 78 (by decide))), ?_⟩
   simp only [Act.put, pa, pb, pc]
   refine l1 13 rfl fun wn hl K hK => ?_
   have HC := H_ (HC.out.later hl); have HB := H_ (kept_on HB.out hl); clear hl
   refine we ?_
   refine (af_other (q 78) _).mono ?_; rintro e wm ⟨rfl, rfl⟩; refine ⟨_, rfl, ?_⟩
   refine hK.out _ _ (Later.refl _) ?_
   clear hK K
   simp only [Act.put, pa, pb, pc]
   refine l1 14 rfl fun wn hl K hK => ?_
   have HC := H_ (HC.out.later hl); have HB := H_ (kept_on HB.out hl); clear hl
   refine we ?_
   refine (by_any q ((c.m.f + c.m.t) / 2) (oth (q 78)) _ HQ.out.wf.dr.bd (oth_u8 _).1 (HT.out.at HB.out).db (HT.out.at HB.out).lead).mono ?_; rintro e wm ⟨rfl, hb⟩; refine ⟨_, rfl, ?_⟩
   refine hK.out _ _ hb ?_
   have HC := H_ (HC.out.later hb); have HB := H_ (kept_on HB.out hb); clear hb
   clear hK K
   simp only [Act.put, pa, pb, pc]
   refine l1 24 rfl fun wn hl K hK => ?_
   have HC := H_ (HC.out.later hl); have HB := H_ (kept_on HB.out hl); clear hl
   refine we ?_
   refine (af_other (q 78) _).mono ?_; rintro e wm ⟨rfl, rfl⟩; refine ⟨_, rfl, ?_⟩
   refine hK.out _ _ (Later.refl _) ?_
   clear hK K
   simp only [Act.put, pa, pb, pc]
   refine l1 25 rfl fun wn hl K hK => ?_
   have HC := H_ (HC.out.later hl); have HB := H_ (kept_on HB.out hl); clear hl
   refine we ?_
   refine (of_any q (oth (q 78)) 1 _ HQ.out.wf.dr.bd).mono ?_; rintro e wm ⟨rfl, hb⟩; refine ⟨_, rfl, ?_⟩
   refine hK.out _ _ hb ?_
   have HC := H_ (HC.out.later hb); have HB := H_ (kept_on HB.out hb); clear hb
   clear hK K
   simp only [Act.put, pa, pb, pc]
   refine lv 26 rfl ⟨.int .u64 ((N : Nat) : Int), fun w' hl => ?_, ?_⟩
   ·(go_simp; first | exact HAn.out | exact HAn.out.trans (by rw [gn]; rfl))
   simp only [Act.put, pa, pb, pc]
   refine lv 27 rfl ⟨.bool false, fun w' hl => ?_, ?_⟩
   ·(go_simp; try simp [gn])
   simp only [Act.put, pa, pb, pc]
   refine lw 28 rfl ?_
   simp only [Act.put, pa, pb, pc]
   refine late_end (by kernel_rfl) (fun wn hl => ?_)
   have HC := H_ (HC.out.later hl); have HB := H_ (kept_on HB.out hl); clear hl
   go_wp2_with fail
   refine bodyPost_end (results_none rfl _ _ _) rfl ?_
   exact ⟨⟨_, rfl⟩, HC.out, HB.out⟩
end Go.Proofs.YteblmnbagbdiiaaGreatDoor
/-
 Layer 16: contract of the change's turn.
-/
namespace Go.Proofs.YteblmnbagbdiiaaGreatDoor
open Go.RowKit Go.Shelf
set_option linter.unusedVariables false
set_option linter.unusedSimpArgs false
attribute [local go_sem] Oper.semAt_some

theorem chkK {p : Nat → Int} {c : Int} {x : Bool} (e : chkB p c = x) (w : World) (hp : AtR p) (hc : 0 ≤ c ∧ c ≤ 255) (hD : TabDb w) (hL : TabLead w) (hT : TabVar w) : Calls Tryz.prog 15 #[.agg (posA p), .int .u8 c] w (BoL x w) := e ▸ check_any p c w hp hc hD hL hT
theorem late_cel {o : Oper} {a : Act} {w : World} {K : Act → World → Prop} {Q : Exit → Act → World → Prop} (ty : TypeId) (x y : Operand) (ho : o.op = .store ty x y) (b i : Nat) (hx : a.eval x = .pointer (some ⟨b, i, none⟩)) (k : IntKind) (v : Int) (hy : a.eval y = .int k v)
  (p : Nat → Int) (c : Ch) (hr : CH w b p c) (hi : i < 88) (hk : kAt i = k) (hs : (Tryz.prog.info? ty).map (·.size) = some 1) (h : ∀ w', Upd b w w' → CH w' b (upd p i v) c → K (a.put o.dst undef) w') : Wp Tryz.prog o a w K Q := by
 subst hk
 exact late_chc ty x y ho b i hx (kAt i) v hy p c hr (by omega) hs fun U => h _ U (hr.set i v hi)
theorem u8_rngA {p : Nat → Int} (h : WfP p) {i : Nat} (hi : i < 88) (e : kAt i = .u8) : 0 ≤ p i ∧ p i ≤ 255 := by
 have := af_of (h i hi)
 rw [e] at this
 have a : IntKind.u8.min = 0 := by decide
 have b : IntKind.u8.max = 255 := by decide
 omega
theorem WfP.tr {p : Nat → Int} (h : WfP p) : WfP (upd p 78 (oth (p 78))) := h.up 78 _ (by have := ps_oth_rng (p 78); exact wf_u8A ⟨by omega, by omega⟩)
theorem af_turn (b : Nat) (p : Nat → Int) (c : Ch) (w : World) (hC : CH w b p c) (hR : ChR p c) (hT : AfT b w) : Calls Tryz.prog 70 #[.pointer (some ⟨b, 0, none⟩)] w (AfL b (turA p) c w) := by
 have HC := H_ hC
 have HM := H_ hR.m
 have HR := H_ hR
 have hx := hR.x
 have hf := hR.f
 have ht := hR.t
 have HT := H_ hT
 clear hC hR hT
 unfold turA
 obtain ⟨q, hq⟩ : ∃ q, upd p 78 (oth (p 78)) = q := ⟨_, rfl⟩
 have HQa := H_ (show AtR q by rw [← hq]; exact AtR.of HR.out.wf.tr)
 have hq0 : p 0 = q 0 := by rw [← hq]; exact (upd_other _ _ _ _ (by decide)).symm
 have hq78 : oth (p 78) = q 78 := by rw [← hq]; exact (upd_same _ _ _).symm
 have hq84 : p 84 = q 84 := by rw [← hq]; exact (upd_other _ _ _ _ (by decide)).symm
 have hq85 : p 85 = q 85 := by rw [← hq]; exact (upd_other _ _ _ _ (by decide)).symm
 obtain ⟨x, hx⟩ : ∃ x, chkB q (oth (p 78)) = x := ⟨_, rfl⟩
 have HX := H_ (show chkB q (q 78) = x by rw [← hq78]; exact hx)
 have HQe := H_ hq
 have h84 : 0 ≤ q 84 ∧ q 84 ≤ 255 := by rw [← hq84]; exact u8_rngA HR.out.wf (by decide) rfl
 have h85 : 0 ≤ q 85 ∧ q 85 ≤ 255 := by rw [← hq85]; exact u8_rngA HR.out.wf (by decide) rfl
 have HO := H_ (show 0 ≤ q 78 ∧ q 78 ≤ 255 by rw [← hq78]; exact ps_oth_rng _)
 rw [hq, hx, hq0]
 have HB := H_ (Kept.refl (fun k => k = b) w)
 rcases HR.out.turn with h78 | h78
 ·have H78 := H_ h78
  rw [h78]
  obtain ⟨z, hz⟩ : ∃ z, min (q 84) 2 = z := ⟨_, rfl⟩
  have hzw : IntKind.u8.wrap (z + 1) = z + 1 := by rw [IntKind.wrap_u8]; omega
  rw [show p (84 + (0 : Int).toNat) = q 84 from hq84, hz]
  clear hq hx hq0 hq78 hq84 hq85 h78
  cases g1 : (q 0 == 5)
  ·have gn : q 0 ≠ 5 := beq_eq_false_iff_ne.1 g1
   go_enter Tryz.func70, Tryz.ntmps70
   go_wp2_with (first
    | (refine step_get rfl 5 _ rfl b 78 rfl Tryz.underlying5 rfl (.int .u8 0) ((HC.out.cell 78 (by decide)).trans (by rw [H78.out]; rfl)) ?_)
    | (go_at_call 142; refine (af_other 0 _).mono ?_; rintro e w3 ⟨rfl, rfl⟩)
    | (refine ch_cell rfl 5 _ _ rfl 78 rfl .u8 _ rfl HC.out (by decide) rfl size5 ?_; intro wn U R; have HC := H_ (show CH wn b q c by rw [← HQe.out, H78.out]; exact R); have HB := H_ (kept_upd HB.out U); clear U R))
   refine late_begin 18 (by kernel_rfl) ?_
   refine lw 0 rfl ?_
   simp only [Act.put, pa, pb, pc]
   refine lw 1 rfl ?_
   simp only [Act.put, pa, pb, pc]
   refine lw 2 rfl ?_
   simp only [Act.put, pa, pb, pc]
   refine lw 3 rfl ?_
   simp only [Act.put, pa, pb, pc]
   refine lv 4 rfl ⟨.int .u8 (q 0), fun w' hl => (run_get 5 _ rfl b 0 rfl Tryz.underlying5 rfl (.int .u8 (q 0)) ((HC.out.later hl).cell 0 (by decide))), ?_⟩
   simp only [Act.put, pa, pb, pc]
   refine lv 5 rfl ⟨.bool false, fun w' hl => ?_, ?_⟩
   ·(go_simp; try simp [gn])
   simp only [Act.put, pa, pb, pc]
   refine lw 6 rfl ?_
   simp only [Act.put, pa, pb, pc]
   refine lo 7 rfl ?_
   simp only [Act.put, pa, pb, pc]
   refine lo 8 rfl ?_
   simp only [Act.put, pa, pb, pc]
   refine lo 9 rfl ?_
   simp only [Act.put, pa, pb, pc]
   refine lo 10 rfl ?_
   simp only [Act.put, pa, pb, pc]
   refine lo 11 rfl ?_
   simp only [Act.put, pa, pb, pc]
   refine lo 12 rfl ?_
   simp only [Act.put, pa, pb, pc]
   refine lo 13 rfl ?_
   simp only [Act.put, pa, pb, pc]
   refine lo 14 rfl ?_
   simp only [Act.put, pa, pb, pc]
   refine lo 15 rfl ?_
   simp only [Act.put, pa, pb, pc]
   refine lo 16 rfl ?_
   simp only [Act.put, pa, pb, pc]
   refine lw 17 rfl ?_
   simp only [Act.put, pa, pb, pc]
   refine late_end (by kernel_rfl) (fun wn hl => ?_)
   have HC := H_ (HC.out.later hl); have HB := H_ (kept_on HB.out hl); clear hl
   go_wp2_with fail
   refine bodyPost_end (results_none rfl _ _ _) rfl ?_
   exact ⟨⟨_, rfl⟩, HC.out, HB.out⟩
  ·have gn : q 0 = 5 := eq_of_beq g1
   cases x
   ·go_enter Tryz.func70, Tryz.ntmps70
    go_wp2_with (first
     | (refine step_get rfl 5 _ rfl b 78 rfl Tryz.underlying5 rfl (.int .u8 0) ((HC.out.cell 78 (by decide)).trans (by rw [H78.out]; rfl)) ?_)
     | (go_at_call 142; refine (af_other 0 _).mono ?_; rintro e w3 ⟨rfl, rfl⟩)
     | (refine ch_cell rfl 5 _ _ rfl 78 rfl .u8 _ rfl HC.out (by decide) rfl size5 ?_; intro wn U R; have HC := H_ (show CH wn b q c by rw [← HQe.out, H78.out]; exact R); have HB := H_ (kept_upd HB.out U); clear U R))
    refine late_begin 18 (by kernel_rfl) ?_
    refine lw 0 rfl ?_
    simp only [Act.put, pa, pb, pc]
    refine lw 1 rfl ?_
    simp only [Act.put, pa, pb, pc]
    refine lw 2 rfl ?_
    simp only [Act.put, pa, pb, pc]
    refine lw 3 rfl ?_
    simp only [Act.put, pa, pb, pc]
    refine lv 4 rfl ⟨.int .u8 (q 0), fun w' hl => (run_get 5 _ rfl b 0 rfl Tryz.underlying5 rfl (.int .u8 (q 0)) ((HC.out.later hl).cell 0 (by decide))), ?_⟩
    simp only [Act.put, pa, pb, pc]
    refine lv 5 rfl ⟨.bool true, fun w' hl => ?_, ?_⟩
    ·(go_simp; try simp [gn])
    simp only [Act.put, pa, pb, pc]
    refine lw 6 rfl ?_
    simp only [Act.put, pa, pb, pc]
    refine lw 7 rfl ?_
    simp only [Act.put, pa, pb, pc]
    refine lw 8 rfl ?_
    simp only [Act.put, pa, pb, pc]
    refine lw 9 rfl ?_
    simp only [Act.put, pa, pb, pc]
    refine lv 10 rfl ⟨.agg (posA (q)), fun w' hl => (run_chp _ rfl b rfl (q) c (HC.out.later hl)), ?_⟩
    simp only [Act.put, pa, pb, pc]
    refine lw 11 rfl ?_
    simp only [Act.put, pa, pb, pc]
    refine lw 12 rfl ?_
    simp only [Act.put, pa, pb, pc]
    refine lw 13 rfl ?_
    simp only [Act.put, pa, pb, pc]
    refine lw 14 rfl ?_
    simp only [Act.put, pa, pb, pc]
    refine lv 15 rfl ⟨.int .u8 (q 78), fun w' hl => (run_get 5 _ rfl b 78 rfl Tryz.underlying5 rfl (.int .u8 (q 78)) ((HC.out.later hl).cell 78 (by decide))), ?_⟩
    simp only [Act.put, pa, pb, pc]
    refine l1 16 rfl fun wn hl K hK => ?_
    have HC := H_ (HC.out.later hl); have HB := H_ (kept_on HB.out hl); clear hl
    refine we ?_
    refine (chkK HX.out _ HQa.out HO.out (HT.out.at HB.out).db (HT.out.at HB.out).lead (HT.out.at HB.out).var).mono ?_; rintro e wm ⟨rfl, hb⟩; refine ⟨_, rfl, ?_⟩
    refine hK.out _ _ hb ?_
    have HC := H_ (HC.out.later hb); have HB := H_ (kept_on HB.out hb); clear hb
    clear hK K
    simp only [Act.put, pa, pb, pc]
    refine lw 17 rfl ?_
    simp only [Act.put, pa, pb, pc]
    refine late_end (by kernel_rfl) (fun wn hl => ?_)
    have HC := H_ (HC.out.later hl); have HB := H_ (kept_on HB.out hl); clear hl
    go_wp2_with fail
    refine bodyPost_end (results_none rfl _ _ _) rfl ?_
    exact ⟨⟨_, rfl⟩, HC.out, HB.out⟩
   ·go_enter Tryz.func70, Tryz.ntmps70
    go_wp2_with (first
     | (refine step_get rfl 5 _ rfl b 78 rfl Tryz.underlying5 rfl (.int .u8 0) ((HC.out.cell 78 (by decide)).trans (by rw [H78.out]; rfl)) ?_)
     | (go_at_call 142; refine (af_other 0 _).mono ?_; rintro e w3 ⟨rfl, rfl⟩)
     | (refine ch_cell rfl 5 _ _ rfl 78 rfl .u8 _ rfl HC.out (by decide) rfl size5 ?_; intro wn U R; have HC := H_ (show CH wn b q c by rw [← HQe.out, H78.out]; exact R); have HB := H_ (kept_upd HB.out U); clear U R))
    refine late_begin 18 (by kernel_rfl) ?_
    refine lw 0 rfl ?_
    simp only [Act.put, pa, pb, pc]
    refine lw 1 rfl ?_
    simp only [Act.put, pa, pb, pc]
    refine lw 2 rfl ?_
    simp only [Act.put, pa, pb, pc]
    refine lw 3 rfl ?_
    simp only [Act.put, pa, pb, pc]
    refine lv 4 rfl ⟨.int .u8 (q 0), fun w' hl => (run_get 5 _ rfl b 0 rfl Tryz.underlying5 rfl (.int .u8 (q 0)) ((HC.out.later hl).cell 0 (by decide))), ?_⟩
    simp only [Act.put, pa, pb, pc]
    refine lv 5 rfl ⟨.bool true, fun w' hl => ?_, ?_⟩
    ·(go_simp; try simp [gn])
    simp only [Act.put, pa, pb, pc]
    refine lw 6 rfl ?_
    simp only [Act.put, pa, pb, pc]
    refine lw 7 rfl ?_
    simp only [Act.put, pa, pb, pc]
    refine lw 8 rfl ?_
    simp only [Act.put, pa, pb, pc]
    refine lw 9 rfl ?_
    simp only [Act.put, pa, pb, pc]
    refine lv 10 rfl ⟨.agg (posA (q)), fun w' hl => (run_chp _ rfl b rfl (q) c (HC.out.later hl)), ?_⟩
    simp only [Act.put, pa, pb, pc]
    refine lw 11 rfl ?_
    simp only [Act.put, pa, pb, pc]
    refine lw 12 rfl ?_
    simp only [Act.put, pa, pb, pc]
    refine lw 13 rfl ?_
    simp only [Act.put, pa, pb, pc]
    refine lw 14 rfl ?_
    simp only [Act.put, pa, pb, pc]
    refine lv 15 rfl ⟨.int .u8 (q 78), fun w' hl => (run_get 5 _ rfl b 78 rfl Tryz.underlying5 rfl (.int .u8 (q 78)) ((HC.out.later hl).cell 78 (by decide))), ?_⟩
    simp only [Act.put, pa, pb, pc]
    refine l1 16 rfl fun wn hl K hK => ?_
    have HC := H_ (HC.out.later hl); have HB := H_ (kept_on HB.out hl); clear hl
    refine we ?_
    refine (chkK HX.out _ HQa.out HO.out (HT.out.at HB.out).db (HT.out.at HB.out).lead (HT.out.at HB.out).var).mono ?_; rintro e wm ⟨rfl, hb⟩; refine ⟨_, rfl, ?_⟩
    refine hK.out _ _ hb ?_
    have HC := H_ (HC.out.later hb); have HB := H_ (kept_on HB.out hb); clear hb
    clear hK K
    simp only [Act.put, pa, pb, pc]
    refine lw 17 rfl ?_
    simp only [Act.put, pa, pb, pc]
    refine late_end (by kernel_rfl) (fun wn hl => ?_)
    have HC := H_ (HC.out.later hl); have HB := H_ (kept_on HB.out hl); clear hl
    go_wp2_with fail
    refine late_begin 15 (by kernel_rfl) ?_
    refine lw 0 rfl ?_
    simp only [Act.put, pa, pb, pc]
    refine lw 1 rfl ?_
    simp only [Act.put, pa, pb, pc]
    refine lw 2 rfl ?_
    simp only [Act.put, pa, pb, pc]
    refine lw 3 rfl ?_
    simp only [Act.put, pa, pb, pc]
    refine lw 4 rfl ?_
    simp only [Act.put, pa, pb, pc]
    refine lw 5 rfl ?_
    simp only [Act.put, pa, pb, pc]
    refine lw 6 rfl ?_
    simp only [Act.put, pa, pb, pc]
    refine lw 7 rfl ?_
    simp only [Act.put, pa, pb, pc]
    refine lv 8 rfl ⟨.int .u8 (q 84), fun w' hl => (run_get 5 _ rfl b 84 rfl Tryz.underlying5 rfl (.int .u8 (q 84)) ((HC.out.later hl).cell 84 (by decide))), ?_⟩
    simp only [Act.put, pa, pb, pc]
    refine lv 9 rfl ⟨.int .u8 z, fun w' hl => ?_, ?_⟩
    ·(go_simp; try exact hz)
    simp only [Act.put, pa, pb, pc]
    refine lv 10 rfl ⟨.int .u8 (z + 1), fun w' hl => ?_, ?_⟩
    ·(go_simp; try exact hzw)
    simp only [Act.put, pa, pb, pc]
    refine late_takeD 11 [12, 13, 14, 15] (by kernel_rfl) (by kernel_rfl) (by kernel_rfl) (by kernel_rfl) (by kernel_rfl) (fun _ _ d _ _ h => by cases d <;> exact h) (fun o ho => ?_)
    simp only [qa, qb, qc, qd] at ho; subst ho
    apply Exists.intro
    refine ⟨Or.inl ⟨by kernel_rfl, fun w' hl => Or.inl ?_⟩, ?_⟩
    ·(go_simp; try with_reducible rfl)
    simp only [Act.put, pa, pb, pc]
    refine late_takeD 12 [13, 14, 15] (by kernel_rfl) (by kernel_rfl) (by kernel_rfl) (by kernel_rfl) (by kernel_rfl) (fun _ _ d _ _ h => by cases d <;> exact h) (fun o ho => ?_)
    simp only [qa, qb, qc, qd] at ho; subst ho
    apply Exists.intro
    refine ⟨Or.inl ⟨by kernel_rfl, fun w' hl => Or.inl ?_⟩, ?_⟩
    ·(go_simp; try with_reducible rfl)
    simp only [Act.put, pa, pb, pc]
    refine late_takeD 13 [14, 15] (by kernel_rfl) (by kernel_rfl) (by kernel_rfl) (by kernel_rfl) (by kernel_rfl) (fun _ _ d _ _ h => by cases d <;> exact h) (fun o ho => ?_)
    simp only [qa, qb, qc, qd] at ho; subst ho
    apply Exists.intro
    refine ⟨Or.inl ⟨by kernel_rfl, fun w' hl => Or.inl ?_⟩, ?_⟩
    ·(go_simp; try with_reducible rfl)
    simp only [Act.put, pa, pb, pc]
    refine lw 14 rfl ?_
    simp only [Act.put, pa, pb, pc]
    refine late_last 15 (by kernel_rfl) (by kernel_rfl) (by kernel_rfl) (fun o ho => ?_)
    simp only [qa, qb, qc, qd] at ho; subst ho
    refine ⟨by kernel_rfl, fun wn hl K hK => ?_⟩
    have HC := H_ (HC.out.later hl); have HB := H_ (kept_on HB.out hl); clear hl
    refine late_cel 5 _ _ rfl b 84 rfl .u8 (z + 1) rfl q c HC.out (by decide) rfl size5 ?_; intro wm U R; have HC := H_ R; have HB := H_ (kept_upd HB.out U); clear U R
    refine hK.out _ _ ?_
    clear hK K
    simp only [Act.put, pa, pb, pc]
    go_wp2_with fail
    refine bodyPost_end (results_none rfl _ _ _) rfl ?_
    exact ⟨⟨_, rfl⟩, HC.out, HB.out⟩
 ·have H78 := H_ h78
  rw [h78]
  obtain ⟨z, hz⟩ : ∃ z, min (q 85) 2 = z := ⟨_, rfl⟩
  have hzw : IntKind.u8.wrap (z + 1) = z + 1 := by rw [IntKind.wrap_u8]; omega
  rw [show p (84 + (1 : Int).toNat) = q 85 from hq85, hz]
  clear hq hx hq0 hq78 hq84 hq85 h78
  cases g1 : (q 0 == 5)
  ·have gn : q 0 ≠ 5 := beq_eq_false_iff_ne.1 g1
   go_enter Tryz.func70, Tryz.ntmps70
   go_wp2_with (first
    | (refine step_get rfl 5 _ rfl b 78 rfl Tryz.underlying5 rfl (.int .u8 1) ((HC.out.cell 78 (by decide)).trans (by rw [H78.out]; rfl)) ?_)
    | (go_at_call 142; refine (af_other 1 _).mono ?_; rintro e w3 ⟨rfl, rfl⟩)
    | (refine ch_cell rfl 5 _ _ rfl 78 rfl .u8 _ rfl HC.out (by decide) rfl size5 ?_; intro wn U R; have HC := H_ (show CH wn b q c by rw [← HQe.out, H78.out]; exact R); have HB := H_ (kept_upd HB.out U); clear U R))
   refine late_begin 18 (by kernel_rfl) ?_
   refine lw 0 rfl ?_
   simp only [Act.put, pa, pb, pc]
   refine lw 1 rfl ?_
   simp only [Act.put, pa, pb, pc]
   refine lw 2 rfl ?_
   simp only [Act.put, pa, pb, pc]
   refine lw 3 rfl ?_
   simp only [Act.put, pa, pb, pc]
   refine lv 4 rfl ⟨.int .u8 (q 0), fun w' hl => (run_get 5 _ rfl b 0 rfl Tryz.underlying5 rfl (.int .u8 (q 0)) ((HC.out.later hl).cell 0 (by decide))), ?_⟩
   simp only [Act.put, pa, pb, pc]
   refine lv 5 rfl ⟨.bool false, fun w' hl => ?_, ?_⟩
   ·(go_simp; try simp [gn])
   simp only [Act.put, pa, pb, pc]
   refine lw 6 rfl ?_
   simp only [Act.put, pa, pb, pc]
   refine lo 7 rfl ?_
   simp only [Act.put, pa, pb, pc]
   refine lo 8 rfl ?_
   simp only [Act.put, pa, pb, pc]
   refine lo 9 rfl ?_
   simp only [Act.put, pa, pb, pc]
   refine lo 10 rfl ?_
   simp only [Act.put, pa, pb, pc]
   refine lo 11 rfl ?_
   simp only [Act.put, pa, pb, pc]
   refine lo 12 rfl ?_
   simp only [Act.put, pa, pb, pc]
   refine lo 13 rfl ?_
   simp only [Act.put, pa, pb, pc]
   refine lo 14 rfl ?_
   simp only [Act.put, pa, pb, pc]
   refine lo 15 rfl ?_
   simp only [Act.put, pa, pb, pc]
   refine lo 16 rfl ?_
   simp only [Act.put, pa, pb, pc]
   refine lw 17 rfl ?_
   simp only [Act.put, pa, pb, pc]
   refine late_end (by kernel_rfl) (fun wn hl => ?_)
   have HC := H_ (HC.out.later hl); have HB := H_ (kept_on HB.out hl); clear hl
   go_wp2_with fail
   refine bodyPost_end (results_none rfl _ _ _) rfl ?_
   exact ⟨⟨_, rfl⟩, HC.out, HB.out⟩
  ·have gn : q 0 = 5 := eq_of_beq g1
   cases x
   ·go_enter Tryz.func70, Tryz.ntmps70
    go_wp2_with (first
     | (refine step_get rfl 5 _ rfl b 78 rfl Tryz.underlying5 rfl (.int .u8 1) ((HC.out.cell 78 (by decide)).trans (by rw [H78.out]; rfl)) ?_)
     | (go_at_call 142; refine (af_other 1 _).mono ?_; rintro e w3 ⟨rfl, rfl⟩)
     | (refine ch_cell rfl 5 _ _ rfl 78 rfl .u8 _ rfl HC.out (by decide) rfl size5 ?_; intro wn U R; have HC := H_ (show CH wn b q c by rw [← HQe.out, H78.out]; exact R); have HB := H_ (kept_upd HB.out U); clear U R))
    refine late_begin 18 (by kernel_rfl) ?_
    refine lw 0 rfl ?_
    simp only [Act.put, pa, pb, pc]
    refine lw 1 rfl ?_
    simp only [Act.put, pa, pb, pc]
    refine lw 2 rfl ?_
    simp only [Act.put, pa, pb, pc]
    refine lw 3 rfl ?_
    simp only [Act.put, pa, pb, pc]
    refine lv 4 rfl ⟨.int .u8 (q 0), fun w' hl => (run_get 5 _ rfl b 0 rfl Tryz.underlying5 rfl (.int .u8 (q 0)) ((HC.out.later hl).cell 0 (by decide))), ?_⟩
    simp only [Act.put, pa, pb, pc]
    refine lv 5 rfl ⟨.bool true, fun w' hl => ?_, ?_⟩
    ·(go_simp; try simp [gn])
    simp only [Act.put, pa, pb, pc]
    refine lw 6 rfl ?_
    simp only [Act.put, pa, pb, pc]
    refine lw 7 rfl ?_
    simp only [Act.put, pa, pb, pc]
    refine lw 8 rfl ?_
    simp only [Act.put, pa, pb, pc]
    refine lw 9 rfl ?_
    simp only [Act.put, pa, pb, pc]
    refine lv 10 rfl ⟨.agg (posA (q)), fun w' hl => (run_chp _ rfl b rfl (q) c (HC.out.later hl)), ?_⟩
    simp only [Act.put, pa, pb, pc]
    refine lw 11 rfl ?_
    simp only [Act.put, pa, pb, pc]
    refine lw 12 rfl ?_
    simp only [Act.put, pa, pb, pc]
    refine lw 13 rfl ?_
    simp only [Act.put, pa, pb, pc]
    refine lw 14 rfl ?_
    simp only [Act.put, pa, pb, pc]
    refine lv 15 rfl ⟨.int .u8 (q 78), fun w' hl => (run_get 5 _ rfl b 78 rfl Tryz.underlying5 rfl (.int .u8 (q 78)) ((HC.out.later hl).cell 78 (by decide))), ?_⟩
    simp only [Act.put, pa, pb, pc]
    refine l1 16 rfl fun wn hl K hK => ?_
    have HC := H_ (HC.out.later hl); have HB := H_ (kept_on HB.out hl); clear hl
    refine we ?_
    refine (chkK HX.out _ HQa.out HO.out (HT.out.at HB.out).db (HT.out.at HB.out).lead (HT.out.at HB.out).var).mono ?_; rintro e wm ⟨rfl, hb⟩; refine ⟨_, rfl, ?_⟩
    refine hK.out _ _ hb ?_
    have HC := H_ (HC.out.later hb); have HB := H_ (kept_on HB.out hb); clear hb
    clear hK K
    simp only [Act.put, pa, pb, pc]
    refine lw 17 rfl ?_
    simp only [Act.put, pa, pb, pc]
    refine late_end (by kernel_rfl) (fun wn hl => ?_)
    have HC := H_ (HC.out.later hl); have HB := H_ (kept_on HB.out hl); clear hl
    go_wp2_with fail
    refine bodyPost_end (results_none rfl _ _ _) rfl ?_
    exact ⟨⟨_, rfl⟩, HC.out, HB.out⟩
   ·go_enter Tryz.func70, Tryz.ntmps70
    go_wp2_with (first
     | (refine step_get rfl 5 _ rfl b 78 rfl Tryz.underlying5 rfl (.int .u8 1) ((HC.out.cell 78 (by decide)).trans (by rw [H78.out]; rfl)) ?_)
     | (go_at_call 142; refine (af_other 1 _).mono ?_; rintro e w3 ⟨rfl, rfl⟩)
     | (refine ch_cell rfl 5 _ _ rfl 78 rfl .u8 _ rfl HC.out (by decide) rfl size5 ?_; intro wn U R; have HC := H_ (show CH wn b q c by rw [← HQe.out, H78.out]; exact R); have HB := H_ (kept_upd HB.out U); clear U R))
    refine late_begin 18 (by kernel_rfl) ?_
    refine lw 0 rfl ?_
    simp only [Act.put, pa, pb, pc]
    refine lw 1 rfl ?_
    simp only [Act.put, pa, pb, pc]
    refine lw 2 rfl ?_
    simp only [Act.put, pa, pb, pc]
    refine lw 3 rfl ?_
    simp only [Act.put, pa, pb, pc]
    refine lv 4 rfl ⟨.int .u8 (q 0), fun w' hl => (run_get 5 _ rfl b 0 rfl Tryz.underlying5 rfl (.int .u8 (q 0)) ((HC.out.later hl).cell 0 (by decide))), ?_⟩
    simp only [Act.put, pa, pb, pc]
    refine lv 5 rfl ⟨.bool true, fun w' hl => ?_, ?_⟩
    ·(go_simp; try simp [gn])
    simp only [Act.put, pa, pb, pc]
    refine lw 6 rfl ?_
    simp only [Act.put, pa, pb, pc]
    refine lw 7 rfl ?_
    simp only [Act.put, pa, pb, pc]
    refine lw 8 rfl ?_
    simp only [Act.put, pa, pb, pc]
    refine lw 9 rfl ?_
    simp only [Act.put, pa, pb, pc]
    refine lv 10 rfl ⟨.agg (posA (q)), fun w' hl => (run_chp _ rfl b rfl (q) c (HC.out.later hl)), ?_⟩
    simp only [Act.put, pa, pb, pc]
    refine lw 11 rfl ?_
    simp only [Act.put, pa, pb, pc]
    refine lw 12 rfl ?_
    simp only [Act.put, pa, pb, pc]
    refine lw 13 rfl ?_
    simp only [Act.put, pa, pb, pc]
    refine lw 14 rfl ?_
    simp only [Act.put, pa, pb, pc]
    refine lv 15 rfl ⟨.int .u8 (q 78), fun w' hl => (run_get 5 _ rfl b 78 rfl Tryz.underlying5 rfl (.int .u8 (q 78)) ((HC.out.later hl).cell 78 (by decide))), ?_⟩
    simp only [Act.put, pa, pb, pc]
    refine l1 16 rfl fun wn hl K hK => ?_
    have HC := H_ (HC.out.later hl); have HB := H_ (kept_on HB.out hl); clear hl
    refine we ?_
    refine (chkK HX.out _ HQa.out HO.out (HT.out.at HB.out).db (HT.out.at HB.out).lead (HT.out.at HB.out).var).mono ?_; rintro e wm ⟨rfl, hb⟩; refine ⟨_, rfl, ?_⟩
    refine hK.out _ _ hb ?_
    have HC := H_ (HC.out.later hb); have HB := H_ (kept_on HB.out hb); clear hb
    clear hK K
    simp only [Act.put, pa, pb, pc]
    refine lw 17 rfl ?_
    simp only [Act.put, pa, pb, pc]
    refine late_end (by kernel_rfl) (fun wn hl => ?_)
    have HC := H_ (HC.out.later hl); have HB := H_ (kept_on HB.out hl); clear hl
    go_wp2_with fail
    refine late_begin 15 (by kernel_rfl) ?_
    refine lw 0 rfl ?_
    simp only [Act.put, pa, pb, pc]
    refine lw 1 rfl ?_
    simp only [Act.put, pa, pb, pc]
    refine lw 2 rfl ?_
    simp only [Act.put, pa, pb, pc]
    refine lw 3 rfl ?_
    simp only [Act.put, pa, pb, pc]
    refine lw 4 rfl ?_
    simp only [Act.put, pa, pb, pc]
    refine lw 5 rfl ?_
    simp only [Act.put, pa, pb, pc]
    refine lw 6 rfl ?_
    simp only [Act.put, pa, pb, pc]
    refine lw 7 rfl ?_
    simp only [Act.put, pa, pb, pc]
    refine lv 8 rfl ⟨.int .u8 (q 85), fun w' hl => (run_get 5 _ rfl b 85 rfl Tryz.underlying5 rfl (.int .u8 (q 85)) ((HC.out.later hl).cell 85 (by decide))), ?_⟩
    simp only [Act.put, pa, pb, pc]
    refine lv 9 rfl ⟨.int .u8 z, fun w' hl => ?_, ?_⟩
    ·(go_simp; try exact hz)
    simp only [Act.put, pa, pb, pc]
    refine lv 10 rfl ⟨.int .u8 (z + 1), fun w' hl => ?_, ?_⟩
    ·(go_simp; try exact hzw)
    simp only [Act.put, pa, pb, pc]
    refine late_takeD 11 [12, 13, 14, 15] (by kernel_rfl) (by kernel_rfl) (by kernel_rfl) (by kernel_rfl) (by kernel_rfl) (fun _ _ d _ _ h => by cases d <;> exact h) (fun o ho => ?_)
    simp only [qa, qb, qc, qd] at ho; subst ho
    apply Exists.intro
    refine ⟨Or.inl ⟨by kernel_rfl, fun w' hl => Or.inl ?_⟩, ?_⟩
    ·(go_simp; try with_reducible rfl)
    simp only [Act.put, pa, pb, pc]
    refine late_takeD 12 [13, 14, 15] (by kernel_rfl) (by kernel_rfl) (by kernel_rfl) (by kernel_rfl) (by kernel_rfl) (fun _ _ d _ _ h => by cases d <;> exact h) (fun o ho => ?_)
    simp only [qa, qb, qc, qd] at ho; subst ho
    apply Exists.intro
    refine ⟨Or.inl ⟨by kernel_rfl, fun w' hl => Or.inl ?_⟩, ?_⟩
    ·(go_simp; try with_reducible rfl)
    simp only [Act.put, pa, pb, pc]
    refine late_takeD 13 [14, 15] (by kernel_rfl) (by kernel_rfl) (by kernel_rfl) (by kernel_rfl) (by kernel_rfl) (fun _ _ d _ _ h => by cases d <;> exact h) (fun o ho => ?_)
    simp only [qa, qb, qc, qd] at ho; subst ho
    apply Exists.intro
    refine ⟨Or.inl ⟨by kernel_rfl, fun w' hl => Or.inl ?_⟩, ?_⟩
    ·(go_simp; try with_reducible rfl)
    simp only [Act.put, pa, pb, pc]
    refine lw 14 rfl ?_
    simp only [Act.put, pa, pb, pc]
    refine late_last 15 (by kernel_rfl) (by kernel_rfl) (by kernel_rfl) (fun o ho => ?_)
    simp only [qa, qb, qc, qd] at ho; subst ho
    refine ⟨by kernel_rfl, fun wn hl K hK => ?_⟩
    have HC := H_ (HC.out.later hl); have HB := H_ (kept_on HB.out hl); clear hl
    refine late_cel 5 _ _ rfl b 85 rfl .u8 (z + 1) rfl q c HC.out (by decide) rfl size5 ?_; intro wm U R; have HC := H_ R; have HB := H_ (kept_upd HB.out U); clear U R
    refine hK.out _ _ ?_
    clear hK K
    simp only [Act.put, pa, pb, pc]
    go_wp2_with fail
    refine bodyPost_end (results_none rfl _ _ _) rfl ?_
    exact ⟨⟨_, rfl⟩, HC.out, HB.out⟩
end Go.Proofs.YteblmnbagbdiiaaGreatDoor
