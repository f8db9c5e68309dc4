/-
 Several texts in one: DrA, DrB.
-/
import Derived.Test.YteblmnbagbdiiaaGreatDoorDrMath
import Derived.Test.YteblmnbagbdiiaaGreatDoorVaBaseE
import Derived.Test.YteblmnbagbdiiaaGreatDoorAfBaseK
import Derived.Test.YteblmnbagbdiiaaGreatDoorEach
import Derived.Test.YteblmnbagbdiiaaGreatDoorVaBaseB
import Derived.WalkMore
/-
 Contracts of drop's hasPlace, held, open, Held, Men, Add, Take.
-/
set_option maxRecDepth 100000
set_option maxHeartbeats 4000000
namespace Go.Proofs.YteblmnbagbdiiaaGreatDoor
open Go.RowKit Go.Shelf
set_option linter.unusedVariables false
set_option linter.unusedSimpArgs false
attribute [local go_sem] Oper.semAt_some

theorem xor_full {b : Nat} (hb : b < W64) : bits .xor .u64 18446744073709551615 (b : Int) = (((18446744073709551615 ^^^ b : Nat)) : Int) := by
 have h1 : (BitVec.ofInt 64 (18446744073709551615 : Int)).toNat = 18446744073709551615 := by decide
 have h2 : (BitVec.ofInt 64 (b : Int)).toNat = b := by
  rw [BitVec.ofInt_natCast, BitVec.toNat_ofNat]; exact Nat.mod_eq_of_lt (by unfold W64 at hb; omega)
 show IntKind.u64.wrap ((BitVec.ofInt 64 (18446744073709551615 : Int) ^^^ BitVec.ofInt 64 (b : Int)).toNat : Int) = _
 rw [BitVec.toNat_xor, h1, h2]
 exact wrap_nat _ (Nat.xor_lt_two_pow (n := 64) (by decide) hb)
theorem dr_has (c k : Int) (w : World) : Calls Tryz.prog 162 #[.int .u8 c, .int .u8 k] w (fun e w' => e = .returned (.bool (hasP c k)) ∧ w = w') := by
 unfold hasP
 cases g1 : decide (c ≤ 1)
 ·go_enter Tryz.func162, Tryz.ntmps162
  go_wp2
  go_ret
  exact ⟨rfl, rfl⟩
 ·cases g2 : decide (1 ≤ k)
  ·go_enter Tryz.func162, Tryz.ntmps162
   go_wp2
   go_ret
   exact ⟨rfl, rfl⟩
  ·cases g3 : decide (k < 6)
   all_goals
    go_enter Tryz.func162, Tryz.ntmps162
    go_wp2
    go_ret
    exact ⟨rfl, rfl⟩
theorem dr_open (e : Nat) (k : Nat) (w : World) (he : e < W64) : Calls Tryz.prog 85 #[.int .u64 (e : Int), .int .u8 (k : Int)] w (fun x w' => x = .returned (.int .u64 ((opN e k : Nat) : Int)) ∧ w = w') := by
 have HN := H_ (show bits .andNot .u64 (e : Int) 18374686479671623935 = ((e ^^^ (e &&& outN) : Nat) : Int) from andNot_nat he (b := outN) (by decide))
 have hk : ((k : Int) == 1) = (k == 1) := by
  rw [Bool.eq_iff_iff]; simp only [beq_iff_eq]; omega
 unfold opN
 cases g : (k == 1)
 ·rw [g] at hk
  clear HN
  go_enter Tryz.func85, Tryz.ntmps85
  go_wp2
  go_ret
  exact ⟨rfl, rfl⟩
 ·rw [g] at hk
  go_enter Tryz.func85, Tryz.ntmps85
  go_wp2
  go_ret
  exact ⟨by rw [cond_true, ← HN.out]; rfl, rfl⟩
theorem kAt_pk {i : Nat} (h0 : 66 ≤ i) (h : i < 78) : kAt i = .u8 := by unfold kAt; rw [if_neg (by omega), if_neg (by omega), if_neg (by omega)]
theorem dr_held (p : Nat → Int) (c k : Int) (w : World) (hc : 0 ≤ c) : Calls Tryz.prog 83 #[.agg (posA p), .int .u8 c, .int .u8 k] w (U8L (helC p c k) w) := by
 have HB := H_ (Below.refl w.heap.size w)
 cases gh : hasP c k
 ·have HA := H_ gh
  have HS := H_ (helC_out (p := p) gh)
  clear gh
  go_enter Tryz.func83, Tryz.ntmps83
  go_wp2_with (first
   | (guard_target = gB 3; refine step_box rfl _ rfl p rfl ?_; intro b3 w1 N R; have HG3 := H_ (nA HB.out N); have HB := H_ (below_on HB.out N.below); have HR3 := H_ R; clear N R)
   | (go_at_call 162; refine (dr_has c k _).mono ?_; rintro e w3 ⟨rfl, rfl⟩; rw [HA.out]))
  go_ret
  exact ⟨by rw [HS.out]; rfl, HB.out⟩
 ·have HA := H_ gh
  have HS := H_ (helC_yes (p := p) gh)
  have hh := hasP_true.1 gh
  obtain ⟨c, rfl⟩ := Int.eq_ofNat_of_zero_le hc
  obtain ⟨k, rfl⟩ := Int.eq_ofNat_of_zero_le (show 0 ≤ k by omega)
  have hc1 : c ≤ 1 := by omega
  have hk6 : k < 6 := by omega
  have HI := H_ (show 66 ≤ 66 + c * 6 + k by omega)
  have HI2 := H_ (show 66 + c * 6 + k < 78 by omega)
  rw [pkJ_at] at HS
  clear gh hh hc
  go_enter Tryz.func83, Tryz.ntmps83
  go_wp2_with (first
   | (guard_target = gB 3; refine step_box rfl _ rfl p rfl ?_; intro b3 w1 N R; have HG3 := H_ (nA HB.out N); have HB := H_ (below_on HB.out N.below); have HR3 := H_ R; clear N R)
   | (go_at_call 162; refine (dr_has c k _).mono ?_; rintro e w3 ⟨rfl, rfl⟩; rw [HA.out])
   | (guard_target = gL 15; refine step_get rfl 5 _ rfl b3 (66 + c * 6 + k) rfl Tryz.underlying5 rfl (.int .u8 (p (66 + c * 6 + k))) ?_ ?_; exact (HR3.out.cell (66 + c * 6 + k) (by have := HI2.out; omega)).trans (by rw [kAt_pk HI.out HI2.out])))
  go_ret
  exact ⟨by rw [HS.out]; rfl, HB.out⟩
theorem late_cellD {o : Oper} {a : Act} {w : World} {K : Act → World → Prop} {Q : Exit → Act → World → Prop} (ty : TypeId) (x y : Operand) (ho : o.op = .store ty x y) (b i : Nat) (hx : a.eval x = .pointer (some ⟨b, i, none⟩)) (k : IntKind) (v : Int) (hy : a.eval y = .int k v)
  (p : Nat → Int) (hr : Row w b p) (hi : i < 88) (hk : kAt i = k) (hs : (Tryz.prog.info? ty).map (·.size) = some 1) (h : ∀ w', Upd b w w' → Row w' b (upd p i v) → K (a.put o.dst undef) w') : Wp Tryz.prog o a w K Q := ⟨by
 subst hk
 have hrun : (storeVar ty ⟨b, i, none⟩ (.int (kAt i) v)).run Tryz.prog w = .ok () (w.setCell ⟨b, i, none⟩ (.int (kAt i) v)) :=
  run_storeVar_mid w b i ty #[.int (kAt i) v] (hr.there i 1 (by omega)) hs (by simp [Value.oneCell'])
 unfold Oper.wp execOp
 simp only [ho, hx, hy, Instr.storeAt, Instr.sureAddr, Sem.run_bind, Sem.run_pure, Result.andThen_ok, hrun]
 exact h _ (Upd.setCell w b i _) (hr.set i v hi)⟩
theorem hasP_nat {c k : Int} (hc : 0 ≤ c) (h : hasP c k = true) : ∃ a b : Nat, c = (a : Int) ∧ k = (b : Int) ∧ a ≤ 1 ∧ 1 ≤ b ∧ b < 6 := by
 have hh := hasP_true.1 h
 obtain ⟨a, rfl⟩ := Int.eq_ofNat_of_zero_le hc
 obtain ⟨b, rfl⟩ := Int.eq_ofNat_of_zero_le (show 0 ≤ k by omega)
 exact ⟨a, b, rfl, rfl, by omega, by omega, by omega⟩
theorem dr_Add (p : Nat → Int) (c k : Int) (w : World) (hc : 0 ≤ c) (hp : DrR p) : Calls Tryz.prog 133 #[.agg (posA p), .int .u8 c, .int .u8 k] w (PosL (addP p c k) w) := by
 have HB := H_ (Below.refl w.heap.size w)
 cases gh : hasP c k
 ·have HA := H_ gh
  have HS := H_ (show addP p c k = p by unfold addP; rw [gh]; rfl)
  clear gh hp
  go_enter Tryz.func133, Tryz.ntmps133
  go_wp2_with (first
   | (guard_target = gB 3; refine step_box rfl _ rfl p rfl ?_; intro b3 w1 N R; have HG3 := H_ (nA HB.out N); have HB := H_ (below_on HB.out N.below); have HR3 := H_ R; clear N R)
   | (guard_target = gA 6; refine step_alloc rfl rfl ?_; intro b6 w2 N R; have HD := H_ (show b3 ≠ b6 by have := HR3.out.lt; have := N.at_; omega); have HG6 := H_ (nA HB.out N); have HR3 := H_ (HR3.out.later N.below); have HB := H_ (below_on HB.out N.below); have HR6 := H_ R; clear N R)
   | (go_at_call 162; refine (dr_has _ _ _).mono ?_; rintro e w3 ⟨rfl, rfl⟩; rw [HA.out])
   | (guard_target = gL 3; refine step_load rfl _ rfl b3 rfl p HR3.out ?_)
   | (guard_target = gS 6; refine step_store rfl _ _ rfl b6 rfl zeroP (p) rfl HR6.out ?_; intro w2 U R; have HR3 := H_ (HR3.out.apart U HD.out); have HR6 := H_ R; have HB := H_ (HB.out.trans (U.below HG6.out)); clear U R))
  refine bodyPost_ret (v := .agg (posA (p))) (results_row rfl _ _ _ _ rfl HR6.out) rfl ⟨by rw [HS.out], HB.out⟩
 ·have HA := H_ gh
  obtain ⟨c, k, rfl, rfl, hc1, hk1, hk6⟩ := hasP_nat hc gh
  have HI := H_ (show 66 ≤ 66 + c * 6 + k by omega)
  have HI2 := H_ (show 66 + c * 6 + k < 78 by omega)
  have hr := hp.pk (66 + c * 6 + k) (by omega) (by omega)
  obtain ⟨x, hx⟩ : ∃ x, p (66 + c * 6 + k) = x := ⟨_, rfl⟩
  have HX := H_ hx
  rw [hx] at hr
  cases gx : decide (x < 255)
  ·have HS := H_ (show addP p (c : Int) (k : Int) = p by unfold addP; rw [gh, pkJ_at, hx, gx]; rfl)
   clear gh hp hc hx
   go_enter Tryz.func133, Tryz.ntmps133
   go_wp2_with (first
   | (guard_target = gB 3; refine step_box rfl _ rfl p rfl ?_; intro b3 w1 N R; have HG3 := H_ (nA HB.out N); have HB := H_ (below_on HB.out N.below); have HR3 := H_ R; clear N R)
   | (guard_target = gA 6; refine step_alloc rfl rfl ?_; intro b6 w2 N R; have HD := H_ (show b3 ≠ b6 by have := HR3.out.lt; have := N.at_; omega); have HG6 := H_ (nA HB.out N); have HR3 := H_ (HR3.out.later N.below); have HB := H_ (below_on HB.out N.below); have HR6 := H_ R; clear N R)
   | (go_at_call 162; refine (dr_has _ _ _).mono ?_; rintro e w3 ⟨rfl, rfl⟩; rw [HA.out])
   | (guard_target = gL 3; refine step_load rfl _ rfl b3 rfl p HR3.out ?_)
   | (guard_target = gL 15; refine step_get rfl 5 _ rfl b3 (66 + c * 6 + k) rfl Tryz.underlying5 rfl (.int .u8 x) ?_ ?_; exact (HR3.out.cell (66 + c * 6 + k) (by have := HI2.out; omega)).trans (by rw [kAt_pk HI.out HI2.out, HX.out]))
   | (guard_target = gS 6; refine step_store rfl _ _ rfl b6 rfl zeroP (p) rfl HR6.out ?_; intro w2 U R; have HR3 := H_ (HR3.out.apart U HD.out); have HR6 := H_ R; have HB := H_ (HB.out.trans (U.below HG6.out)); clear U R))
   refine bodyPost_ret (v := .agg (posA (p))) (results_row rfl _ _ _ _ rfl HR6.out) rfl ⟨by rw [HS.out], HB.out⟩
  ·have HS := H_ (show addP p (c : Int) (k : Int) = upd p (66 + c * 6 + k) (x + 1) by unfold addP; rw [gh, pkJ_at, hx, gx]; rfl)
   have hx2 := of_decide_eq_true gx
   clear gh hp hc hx
   go_enter Tryz.func133, Tryz.ntmps133
   go_wp2_with (first
   | (guard_target = gB 3; refine step_box rfl _ rfl p rfl ?_; intro b3 w1 N R; have HG3 := H_ (nA HB.out N); have HB := H_ (below_on HB.out N.below); have HR3 := H_ R; clear N R)
   | (guard_target = gA 6; refine step_alloc rfl rfl ?_; intro b6 w2 N R; have HD := H_ (show b3 ≠ b6 by have := HR3.out.lt; have := N.at_; omega); have HG6 := H_ (nA HB.out N); have HR3 := H_ (HR3.out.later N.below); have HB := H_ (below_on HB.out N.below); have HR6 := H_ R; clear N R)
   | (go_at_call 162; refine (dr_has _ _ _).mono ?_; rintro e w3 ⟨rfl, rfl⟩; rw [HA.out])
   | (guard_target = gL 3; refine step_load rfl _ rfl b3 rfl p HR3.out ?_)
   | (guard_target = gL 15; refine step_get rfl 5 _ rfl b3 (66 + c * 6 + k) rfl Tryz.underlying5 rfl (.int .u8 x) ?_ ?_; exact (HR3.out.cell (66 + c * 6 + k) (by have := HI2.out; omega)).trans (by rw [kAt_pk HI.out HI2.out, HX.out])))
   refine late_begin 10 (by kernel_rfl) ?_
   refine lw 0 rfl ?_
   simp only [Act.put, pa, pb, pc]
   refine lw 1 rfl ?_
   simp only [Act.put, pa, pb, pc]
   refine lw 2 rfl ?_
   simp only [Act.put, pa, pb, pc]
   refine lv 3 rfl ⟨.pointer (some ⟨b3, 66 + c * 6, none⟩), fun w' hl => ?_, ?_⟩
   ·(go_simp; first | done | (with_reducible rfl) | (intro hbad; exfalso; omega))
   simp only [Act.put, pa, pb, pc]
   refine lv 4 rfl ⟨.pointer (some ⟨b3, 66 + c * 6 + k, none⟩), fun w' hl => ?_, ?_⟩
   ·(go_simp; first | done | (with_reducible rfl) | (intro hbad; exfalso; omega))
   simp only [Act.put, pa, pb, pc]
   refine lv 5 rfl ⟨.int .u8 x, fun w' hl => (run_get 5 _ rfl b3 (66 + c * 6 + k) rfl Tryz.underlying5 rfl (.int .u8 x) (((HR3.out.later hl).cell (66 + c * 6 + k) (by have := HI2.out; omega)).trans (by rw [kAt_pk HI.out HI2.out, HX.out]))), ?_⟩
   simp only [Act.put, pa, pb, pc]
   refine lv 6 rfl ⟨.int .u8 (x + 1), fun w' hl => ?_, ?_⟩
   ·go_simp; exact IntWalk.u8_in _ (by omega)
   simp only [Act.put, pa, pb, pc]
   refine late_takeD 7 [8, 9, 10] (by kernel_rfl) (by kernel_rfl) (by kernel_rfl) (by kernel_rfl) (by kernel_rfl) (fun _ _ d _ _ h => by cases d <;> exact h) (fun o ho => ?_)
   simp only [qa, qb, qc, qd] at ho; subst ho
   apply Exists.intro
   refine ⟨Or.inl ⟨by kernel_rfl, fun w' hl => Or.inl ?_⟩, ?_⟩
   ·(go_simp; try with_reducible rfl)
   simp only [Act.put, pa, pb, pc]
   refine late_takeD 8 [9, 10] (by kernel_rfl) (by kernel_rfl) (by kernel_rfl) (by kernel_rfl) (by kernel_rfl) (fun _ _ d _ _ h => by cases d <;> exact h) (fun o ho => ?_)
   simp only [qa, qb, qc, qd] at ho; subst ho
   refine ⟨.pointer (some ⟨b3, 66 + c * 6, none⟩), Or.inl ⟨by kernel_rfl, fun w' hl => Or.inl ?_⟩, ?_⟩
   ·(go_simp; first | done | (with_reducible rfl) | (intro hbad; exfalso; omega))
   simp only [Act.put, pa, pb, pc]
   refine lv 9 rfl ⟨.pointer (some ⟨b3, 66 + c * 6 + k, none⟩), fun w' hl => ?_, ?_⟩
   ·(go_simp; first | done | (with_reducible rfl) | (intro hbad; exfalso; omega))
   simp only [Act.put, pa, pb, pc]
   refine late_last 10 (by kernel_rfl) (by kernel_rfl) (by kernel_rfl) (fun o ho => ?_)
   simp only [qa, qb, qc, qd] at ho; subst ho
   refine ⟨by kernel_rfl, fun wn hl K hK => ?_⟩
   have HR3 := H_ (HR3.out.later hl); have HR6 := H_ (HR6.out.later hl); have HB := H_ (below_on HB.out hl); clear hl
   refine late_cellD 5 _ _ rfl b3 (66 + c * 6 + k) rfl .u8 (x + 1) rfl p HR3.out (by have := HI2.out; omega) (kAt_pk HI.out HI2.out) size5 ?_; intro wm U R
   have HR6 := H_ (HR6.out.apart U (Ne.symm HD.out)); have HR3 := H_ R; have HB := H_ (HB.out.trans (U.below HG3.out)); clear U R
   refine hK.out _ _ ?_
   clear hK K
   simp only [Act.put, pa, pb, pc]
   go_wp2_with (first
   | (guard_target = gL 3; refine step_load rfl _ rfl b3 rfl (upd p (66 + c * 6 + k) (x + 1)) HR3.out ?_)
   | (guard_target = gS 6; refine step_store rfl _ _ rfl b6 rfl zeroP (upd p (66 + c * 6 + k) (x + 1)) rfl HR6.out ?_; intro w2 U R; have HR3 := H_ (HR3.out.apart U HD.out); have HR6 := H_ R; have HB := H_ (HB.out.trans (U.below HG6.out)); clear U R))
   refine bodyPost_ret (v := .agg (posA (upd p (66 + c * 6 + k) (x + 1)))) (results_row rfl _ _ _ _ rfl HR6.out) rfl ⟨by rw [HS.out], HB.out⟩
def TakL (q : Nat → Int) (b : Bool) (w : World) (e : Ending) (w' : World) : Prop := e = .returned (.tuple #[.agg (posA q), .bool b]) ∧ Below w.heap.size w w'
theorem dr_Take (p : Nat → Int) (c k : Int) (w : World) (hc : 0 ≤ c) (hp : DrR p) : Calls Tryz.prog 127 #[.agg (posA p), .int .u8 c, .int .u8 k] w (TakL (takP p c k) (!(helC p c k == 0)) w) := by
 have HB := H_ (Below.refl w.heap.size w)
 have HC0 := H_ hc
 cases g0 : (helC p c k == 0)
 ·have hb := Bool.eq_false_iff.1 g0
  cases gh : hasP c k
  ·exact absurd (by rw [helC_out gh]; rfl) hb
  have gv := helC_yes (p := p) gh
  rw [gv] at g0
  obtain ⟨c, k, rfl, rfl, hc1, hk1, hk6⟩ := hasP_nat hc gh
  have HI := H_ (show 66 ≤ 66 + c * 6 + k by omega)
  have HI2 := H_ (show 66 + c * 6 + k < 78 by omega)
  have hr := hp.pk (66 + c * 6 + k) (by omega) (by omega)
  obtain ⟨x, hx⟩ : ∃ x, p (66 + c * 6 + k) = x := ⟨_, rfl⟩
  have HX := H_ hx
  rw [hx] at hr
  rw [pkJ_at, hx] at g0 gv
  have HV := H_ gv
  have hx0 : x ≠ 0 := by simpa using g0
  have HS := H_ (show takP p (c : Int) (k : Int) = upd p (66 + c * 6 + k) (x - 1) by unfold takP; rw [gv, g0, pkJ_at, hx]; rfl)
  clear gh hp hc hx gv hb
  go_enter Tryz.func127, Tryz.ntmps127
  go_wp2_with (first
   | (guard_target = gB 3; refine step_box rfl _ rfl p rfl ?_; intro b3 w1 N R; have HG3 := H_ (nA HB.out N); have HB := H_ (below_on HB.out N.below); have HR3 := H_ R; clear N R)
   | (guard_target = gA 6; refine step_alloc rfl rfl ?_; intro b6 w2 N R; have HD := H_ (show b3 ≠ b6 by have := HR3.out.lt; have := N.at_; omega); have HG6 := H_ (nA HB.out N); have HR3 := H_ (HR3.out.later N.below); have HB := H_ (below_on HB.out N.below); have HR6 := H_ R; clear N R)
   | (go_at_call 83; refine (dr_held p _ _ _ HC0.out).mono ?_; rintro e w3 ⟨rfl, hb⟩; rw [HV.out]; have HR3 := H_ (HR3.out.later hb); have HR6 := H_ (HR6.out.later hb); have HB := H_ (below_on HB.out hb); clear hb)
   | (guard_target = gL 3; refine step_load rfl _ rfl b3 rfl p HR3.out ?_))
  refine late_begin 10 (by kernel_rfl) ?_
  refine lw 0 rfl ?_
  simp only [Act.put, pa, pb, pc]
  refine lw 1 rfl ?_
  simp only [Act.put, pa, pb, pc]
  refine lw 2 rfl ?_
  simp only [Act.put, pa, pb, pc]
  refine lv 3 rfl ⟨.pointer (some ⟨b3, 66 + c * 6, none⟩), fun w' hl => ?_, ?_⟩
  ·(go_simp; first | done | (with_reducible rfl) | (intro hbad; exfalso; omega))
  simp only [Act.put, pa, pb, pc]
  refine lv 4 rfl ⟨.pointer (some ⟨b3, 66 + c * 6 + k, none⟩), fun w' hl => ?_, ?_⟩
  ·(go_simp; first | done | (with_reducible rfl) | (intro hbad; exfalso; omega))
  simp only [Act.put, pa, pb, pc]
  refine lv 5 rfl ⟨.int .u8 x, fun w' hl => (run_get 5 _ rfl b3 (66 + c * 6 + k) rfl Tryz.underlying5 rfl (.int .u8 x) (((HR3.out.later hl).cell (66 + c * 6 + k) (by have := HI2.out; omega)).trans (by rw [kAt_pk HI.out HI2.out, HX.out]))), ?_⟩
  simp only [Act.put, pa, pb, pc]
  refine lv 6 rfl ⟨.int .u8 (x - 1), fun w' hl => ?_, ?_⟩
  ·go_simp; exact IntWalk.u8_in _ (by omega)
  simp only [Act.put, pa, pb, pc]
  refine late_takeD 7 [8, 9, 10] (by kernel_rfl) (by kernel_rfl) (by kernel_rfl) (by kernel_rfl) (by kernel_rfl) (fun _ _ d _ _ h => by cases d <;> exact h) (fun o ho => ?_)
  simp only [qa, qb, qc, qd] at ho; subst ho
  apply Exists.intro
  refine ⟨Or.inl ⟨by kernel_rfl, fun w' hl => Or.inl ?_⟩, ?_⟩
  ·(go_simp; try with_reducible rfl)
  simp only [Act.put, pa, pb, pc]
  refine late_takeD 8 [9, 10] (by kernel_rfl) (by kernel_rfl) (by kernel_rfl) (by kernel_rfl) (by kernel_rfl) (fun _ _ d _ _ h => by cases d <;> exact h) (fun o ho => ?_)
  simp only [qa, qb, qc, qd] at ho; subst ho
  refine ⟨.pointer (some ⟨b3, 66 + c * 6, none⟩), Or.inl ⟨by kernel_rfl, fun w' hl => Or.inl ?_⟩, ?_⟩
  ·(go_simp; first | done | (with_reducible rfl) | (intro hbad; exfalso; omega))
  simp only [Act.put, pa, pb, pc]
  refine lv 9 rfl ⟨.pointer (some ⟨b3, 66 + c * 6 + k, none⟩), fun w' hl => ?_, ?_⟩
  ·(go_simp; first | done | (with_reducible rfl) | (intro hbad; exfalso; omega))
  simp only [Act.put, pa, pb, pc]
  refine late_last 10 (by kernel_rfl) (by kernel_rfl) (by kernel_rfl) (fun o ho => ?_)
  simp only [qa, qb, qc, qd] at ho; subst ho
  refine ⟨by kernel_rfl, fun wn hl K hK => ?_⟩
  have HR3 := H_ (HR3.out.later hl); have HR6 := H_ (HR6.out.later hl); have HB := H_ (below_on HB.out hl); clear hl
  refine late_cellD 5 _ _ rfl b3 (66 + c * 6 + k) rfl .u8 (x - 1) rfl p HR3.out (by have := HI2.out; omega) (kAt_pk HI.out HI2.out) size5 ?_; intro wm U R
  have HR6 := H_ (HR6.out.apart U (Ne.symm HD.out)); have HR3 := H_ R; have HB := H_ (HB.out.trans (U.below HG3.out)); clear U R
  refine hK.out _ _ ?_
  clear hK K
  simp only [Act.put, pa, pb, pc]
  go_wp2_with (first
   | (guard_target = gL 3; refine step_load rfl _ rfl b3 rfl (upd p (66 + c * 6 + k) (x - 1)) HR3.out ?_)
   | (guard_target = gS 6; refine step_store rfl _ _ rfl b6 rfl zeroP (upd p (66 + c * 6 + k) (x - 1)) rfl HR6.out ?_; intro w2 U R; have HR3 := H_ (HR3.out.apart U HD.out); have HR6 := H_ R; have HB := H_ (HB.out.trans (U.below HG6.out)); clear U R))
  refine bodyPost_ret (v := .tuple #[.agg (posA (upd p (66 + c * 6 + k) (x - 1))), .bool true]) (results_two rfl _ _ _ _ _ rfl rfl HR6.out) rfl ⟨by rw [HS.out]; rfl, HB.out⟩
 ·have HV := H_ (show helC p c k = 0 by simpa using g0)
  have HS := H_ (show takP p c k = p by unfold takP; rw [g0]; rfl)
  clear g0 hp
  go_enter Tryz.func127, Tryz.ntmps127
  go_wp2_with (first
   | (guard_target = gB 3; refine step_box rfl _ rfl p rfl ?_; intro b3 w1 N R; have HG3 := H_ (nA HB.out N); have HB := H_ (below_on HB.out N.below); have HR3 := H_ R; clear N R)
   | (guard_target = gA 6; refine step_alloc rfl rfl ?_; intro b6 w2 N R; have HD := H_ (show b3 ≠ b6 by have := HR3.out.lt; have := N.at_; omega); have HG6 := H_ (nA HB.out N); have HR3 := H_ (HR3.out.later N.below); have HB := H_ (below_on HB.out N.below); have HR6 := H_ R; clear N R)
   | (go_at_call 83; refine (dr_held p _ _ _ HC0.out).mono ?_; rintro e w3 ⟨rfl, hb⟩; rw [HV.out]; have HR3 := H_ (HR3.out.later hb); have HR6 := H_ (HR6.out.later hb); have HB := H_ (below_on HB.out hb); clear hb)
   | (guard_target = gL 3; refine step_load rfl _ rfl b3 rfl p HR3.out ?_)
   | (guard_target = gS 6; refine step_store rfl _ _ rfl b6 rfl zeroP (p) rfl HR6.out ?_; intro w2 U R; have HR3 := H_ (HR3.out.apart U HD.out); have HR6 := H_ R; have HB := H_ (HB.out.trans (U.below HG6.out)); clear U R))
  refine bodyPost_ret (v := .tuple #[.agg (posA (p)), .bool false]) (results_two rfl _ _ _ _ _ rfl rfl HR6.out) rfl ⟨by rw [HS.out]; rfl, HB.out⟩
end Go.Proofs.YteblmnbagbdiiaaGreatDoor
/-
 Contract of drop's List.
-/
namespace Go.Proofs.YteblmnbagbdiiaaGreatDoor
open Go.RowKit Go.Shelf
set_option linter.unusedVariables false
set_option linter.unusedSimpArgs false
attribute [local go_sem] Oper.semAt_some

theorem row_keptDr {w w' : World} {X : Nat → Prop} {b : Nat} {p : Nat → Int} (h : Row w b p) (k : Kept X w w') (hx : ¬ X b) : Row w' b p := k.obj (show w.heap[b]? = _ from h) hx
theorem MvsO.ltDr {B : Nat} {L : List Mv} {v : Value} {w : World} (h : MvsO B L v w) {k : Nat} (hk : v.ownBlock = some k) : k < w.heap.size := by
 rcases h.2 with ⟨rfl, _⟩ | ⟨g, cap, cur, rfl, _, hg, _⟩
 ·cases hk
 ·simp [Value.ownBlock] at hk; subst hk; exact (Array.getElem?_eq_some_iff.1 hg).1
theorem dr_poc (p : Nat → Int) (w : World) (h : 0 ≤ p 0 ∧ p 0 ≤ 255) (hT : TabVar w) : Calls Tryz.prog 81 #[.int .u8 (p 0)] w (BoL (p 0 == 2) w) := by
 obtain ⟨n, hn⟩ := Int.eq_ofNat_of_zero_le h.1
 have := poc_any n w (by omega) hT
 rw [poc_int, ← hn] at this
 exact this
theorem listed_slice {B : Nat} {l : List Nat} {v : Value} {w : World} (h : Listed B l v w) : ∃ a c, v = .slice a l.length c := by
 rcases h.2 with ⟨rfl, hn⟩ | ⟨g, cap, cur, rfl, _⟩
 ·exact ⟨none, 0, by rw [hn]⟩
 ·exact ⟨_, _, rfl⟩
def DrM (p : Nat → Int) (w : World) (e : Ending) (w' : World) : Prop := ∃ v, e = .returned v ∧ MvsO w.heap.size (drL p) v w' ∧ Below w.heap.size w w'
structure DrT (w : World) : Prop where
 var : TabVar w
 db : TabDb w
theorem DrT.on {w w' : World} (h : DrT w) (hb : Below w.heap.size w w') : DrT w' := ⟨h.var.on hb, h.db.on hb⟩
theorem list_dr (p : Nat → Int) (w : World) (hp : DrR p) (hT : DrT w) : Calls Tryz.prog 38 #[.agg (posA p)] w (DrM p w) := by
 have HP := H_ hp
 have HT := H_ hT
 have HB := H_ (Below.refl w.heap.size w)
 clear hp hT
 cases gp : (p 0 == 2)
 ·have HG := H_ gp
  have HL := H_ (drL_none (p := p) (Or.inr gp))
  clear gp
  go_enter Tryz.func38, Tryz.ntmps38
  go_wp2_with (first
   | (guard_target = gB 1; refine step_box rfl _ rfl p rfl ?_; intro b1 w1 N R; have HG1 := H_ (nA HB.out N); have HB := H_ (below_on HB.out N.below); have HR1 := H_ R; clear N R))
  go_step3
  go_wp2_with (first
   | (guard_target = gL 8; refine gU rfl 5 _ rfl Tryz.underlying5 HR1.out 0 (by decide) rfl rfl ?_)
   | (go_at_call 81; refine (dr_poc p _ HP.out.var (HT.out.on HB.out).var).mono ?_; rintro e w3 ⟨rfl, hb⟩; rw [HG.out]; have HR1 := H_ (HR1.out.later hb); have HB := H_ (below_on HB.out hb); clear hb))
  try rw [Exit.noGoto_ret]
  exact bodyPost_ret (results_tmp rfl _ _ _) rfl ⟨_, rfl, by rw [HL.out]; exact World.ownsRow_nil _ _ _ _, HB.out⟩
 ·have HG := H_ gp
  have HL := H_ (show drL p = dropT p 6 by unfold drL; rw [gp]; rfl)
  have HX := H_ (show bits .xor .u64 IntKind.u64.max ((occN p : Nat) : Int) = ((emN p : Nat) : Int) from xor_full (occN_lt p))
  clear gp
  obtain ⟨i0, hi, hz0, hz1, hz2⟩ : ∃ i, Tryz.prog.info? 40 = some i ∧ i.zero = some (.agg (mvA mv0)) ∧ i.size = 5 ∧ i.bytes = 5 := by
   cases h : Tryz.prog.info? 40 with
   | none => have := infoMv; rw [h] at this; cases this
   | some i => have := infoMv; rw [h] at this; simp at this; exact ⟨i, rfl, this.1, this.2.1, this.2.2⟩
  go_enter Tryz.func38, Tryz.ntmps38
  go_wp2_with (first
   | (guard_target = gB 1; refine step_box rfl _ rfl p rfl ?_; intro b1 w1 N R; have HG1 := H_ (nA HB.out N); have HB := H_ (below_on HB.out N.below); have HR1 := H_ R; clear N R))
  go_step3
  go_wp2_with (first
   | (guard_target = gL 1; refine step_load rfl _ rfl b1 rfl p HR1.out ?_)
   | (guard_target = gL 8; refine gU rfl 5 _ rfl Tryz.underlying5 HR1.out 0 (by decide) rfl rfl ?_)
   | (go_at_call 81; refine (dr_poc p _ HP.out.var (HT.out.on HB.out).var).mono ?_; rintro e w3 ⟨rfl, hb⟩; rw [HG.out]; have HR1 := H_ (HR1.out.later hb); have HB := H_ (below_on HB.out hb); clear hb)
   | (go_at_call 82; refine (all_set p _ HP.out.bd).mono ?_; rintro e w4 ⟨rfl, hb⟩; have HR1 := H_ (HR1.out.later hb); have HB := H_ (below_on HB.out hb); clear hb))
  go_step3
  go_wp2_with fail
  rw [HX.out]
  go_loopw [3, 15] (fun v i wr => ∃ k : Nat, k ≤ 6 ∧ i = .int .u8 (k : Int) ∧ MvsO (b1 + 1) (dropT p k) v wr ∧ Row wr b1 p ∧ Below w.heap.size w wr ∧ b1 + 1 ≤ wr.heap.size) (fun _ i _ => 6 - (intOf i).toNat)
  case atStart => exact ⟨0, by omega, rfl, World.ownsRow_nil _ _ _ _, HR1.out, HB.out, HR1.out.lt⟩
  case round =>
   clear HR1 HB
   obtain ⟨k, hk, rfl, hv, hr1, hb, hs⟩ := hrel
   have HV := H_ hv
   have HR1 := H_ hr1
   have HB := H_ hb
   have HS := H_ hs
   clear hv hr1 hb hs
   by_cases hlt : k < 6
   ·have HK6 := H_ hlt
    have HDn := H_ (drT_next p k)
    have HDl := H_ (drT_len p k)
    obtain ⟨x, hx⟩ : ∃ x, helC p (p 78) (k : Int) = x := ⟨_, rfl⟩
    have HH := H_ hx
    cases gx : (x == 0)
    ·have HKs := H_ (show drK p k = (listN (opN (emN p) k)).map (dmv k) by unfold drK; rw [hx, gx]; rfl)
     obtain ⟨PL, hPL⟩ : ∃ PL, listN (opN (emN p) k) = PL := ⟨_, rfl⟩
     have HPn := H_ (show PL.length ≤ 64 by rw [← hPL]; exact listN_len _)
     have HPs := H_ (show ∀ s ∈ PL, s < 64 by rw [← hPL]; exact fun s h => List.mem_range.1 (List.mem_filter.1 (show s ∈ (List.range 64).filter (fun i => (opN (emN p) k).testBit i) from h)).1)
     rw [hPL] at HKs
     have HPL := H_ hPL
     clear hPL
     clear hx
     go_wp2_with (first
     | (guard_target = gL 1; refine step_load rfl _ rfl b1 rfl p HR1.out ?_)
     | (guard_target = gL 19; refine gU rfl 5 _ rfl Tryz.underlying5 HR1.out 78 (by decide) rfl rfl ?_)
     | (go_at_call 83; refine (dr_held p (p 78) (k : Int) _ HP.out.turn.1).mono ?_; rintro e w5 ⟨rfl, hb⟩; rw [HH.out]; have HR1 := H_ (HR1.out.later hb); have HV := H_ (HV.out.later hb); have HS := H_ (Nat.le_trans HS.out hb.size); have HB := H_ (below_on HB.out hb); clear hb)
     | (go_at_call 85; refine (dr_open _ k _ (emN_lt p)).mono ?_; rintro e w6 ⟨rfl, rfl⟩)
     | (go_at_call 84; refine (list_any _ _ (opN_lt (emN_lt p) k) (HT.out.on HB.out).db).mono ?_; rintro e w7 ⟨v7, rfl, hv7, hb⟩; rw [HPL.out] at hv7; obtain ⟨a7, c7, rfl⟩ := listed_slice hv7; have HQ7 := H_ (show ListedK .i64 3 w5.heap.size PL (.slice a7 PL.length c7) w7 from hv7); have HN7 := H_ (show b1 < w5.heap.size ∧ ∀ k, u3.ownBlock = some k → k < w5.heap.size from ⟨HR1.out.lt, fun k e => HV.out.ltDr e⟩); have HR1 := H_ (HR1.out.later hb); have HV := H_ (HV.out.later hb); have HS := H_ (Nat.le_trans HS.out hb.size); have HB := H_ (below_on HB.out hb); clear hb hv7))
     have hq7 := HQ7.out
     have hn7 := HN7.out
     obtain ⟨B7, hB7⟩ : ∃ B7, B7 = w5.heap.size := ⟨_, rfl⟩
     rw [← hB7] at hq7 hn7
     clear HQ7 HN7
     by_cases hne : 0 < PL.length
     ·obtain ⟨g7, cap7, cur7, hLi⟩ := listedK_open hq7 hne
      obtain ⟨rfl, rfl⟩ : a7 = some ⟨g7, 0, none⟩ ∧ c7 = cap7 := by have := hLi.val; injection this with h1 h2 h3; exact ⟨h1, h3⟩
      have HLi := H_ hLi
      have HNg := H_ (show b1 < g7 ∧ ∀ k, u3.ownBlock = some k → k ≠ g7 from ⟨by have := hn7.1; have := hLi.base; omega, fun k e => by have := hn7.2 k e; have := hLi.base; omega⟩)
      clear hLi hq7 hn7 hB7
      go_loopw [3, 29] (fun v i wr => ∃ j : Nat, j ≤ PL.length ∧ i = .int .i64 (j : Int) ∧ MvsO (b1 + 1) (dropT p k ++ (PL.take j).map (dmv k)) v wr ∧ (∀ k, v.ownBlock = some k → k ≠ g7) ∧ Lies .i64 3 B7 PL (.slice (some ⟨g7, 0, none⟩) PL.length c7) g7 c7 cur7 wr ∧ Row wr b1 p ∧ Below w.heap.size w wr ∧ b1 + 1 ≤ wr.heap.size) (fun _ i _ => PL.length - (intOf i).toNat)
      case atStart => exact ⟨0, by omega, rfl, by rw [List.take_zero, List.map_nil, List.append_nil]; exact HV.out, HNg.out.2, HLi.out, HR1.out, HB.out, HS.out⟩
      case round =>
       clear HV HLi HR1 HB HS
       obtain ⟨j, hj, rfl, hv, how, hli, hr1, hb, hs⟩ := hrel
       have HV := H_ hv
       have HOw := H_ how
       have HLi := H_ hli
       have HR1 := H_ hr1
       have HB := H_ hb
       have HS := H_ hs
       clear hv how hli hr1 hb hs
       by_cases hjl : j < PL.length
       ·have HJl := H_ hjl
        have hj64 : j < 64 := by have := HPn.out; omega
        obtain ⟨sq, hsq⟩ : ∃ sq, PL[j] = sq := ⟨_, rfl⟩
        have HKj := H_ hsq
        have hs64 : sq < 64 := HPs.out sq (by rw [← hsq]; exact List.getElem_mem _)
        obtain ⟨LA, hLA⟩ : ∃ LA, dropT p k ++ (PL.take j).map (dmv k) = LA := ⟨_, rfl⟩
        have HTk := H_ (show dropT p k ++ (PL.take (j + 1)).map (dmv k) = LA ++ [dmv k sq] by
         rw [← hLA, List.append_assoc]; congr 1; rw [List.take_add_one, List.getElem?_eq_some_iff.2 ⟨hjl, hsq⟩, List.map_append]; rfl)
        have HLn := H_ (show LA.length ≤ 1000 by rw [← hLA, List.length_append, List.length_map, List.length_take]; have h1 := HDl.out; have := HPn.out; omega)
        have HV := H_ (show MvsO (b1 + 1) LA u3 wr by rw [← hLA]; exact HV.out)
        have hw1 : IntKind.i8.wrap (sq : Int) = (sq : Int) := IntWalk.i8_in _ (by omega)
        clear hsq hLA
        go_wp2_with (first
         | (guard_target = gL2 32 31; refine step_get rfl 3 _ rfl g7 j rfl Tryz.underlying3 rfl (.int .i64 ((sq : Nat) : Int)) ?_ ?_; exact (HLi.out.cell j HJl.out).trans (congrArg (fun n : Nat => some (Value.int .i64 (n : Int))) HKj.out))
         | (guard_target = gD 39; refine step_build (op := ⟨some 39, .build _ _, _, _, _, _⟩) rfl 40 _ rfl (mvA ⟨(sq : Int), (sq : Int), 0, (k : Int), false⟩) (by kernel_rfl) ?_; show wpList _ _ _ _ (Act.put _ _ (Value.agg #[.int .i8 (sq : Int), .int .i8 (sq : Int), .int .u8 0, .int .u8 (k : Int), .bool false])) _)
         | (at_builtin; refine wpList_append_own_at _ rfl _ _ 33 rfl (b1 + 1) 40 i0 (.agg (mvA mv0)) 5 5 Tryz.underlying33 hi hz0 hz1 hz2 rfl (by decide) _ _ _ rfl (World.ownsRow.alloc HV.out _) ⟨_, 0, none⟩ 1 1 (mvA (dmv k sq)).toList rfl rfl ?c1 ?c2 ?c3 ?c4 ?c5 ?_))
        case c1 => exact mcells_new _ (mvA (dmv k sq)) _
        case c2 => simp [mvA, Value.oneCell']
        case c3 => unfold maxLen; have := HLn.out; omega
        case c4 => have := HLn.out; omega
        case c5 => have := HS.out; simp; omega
        intro v' w8 hown' hgrow _ hat
        have HVn := H_ (HV.out.grow hown')
        have hkp := (Kept.of_call (fun k => u3.ownBlock = some k) (box_below _ _)).trans (mkept_grown hgrow)
        have HR1n := H_ (row_keptDr HR1.out hkp (fun e => by have h1 := HV.out.from e; omega))
        have HBn := H_ (HB.out.trans (hkp.below (fun i hi => by have h1 := HV.out.from hi; have := HG1.out; omega) HB.out.size))
        have HSn := H_ (Nat.le_trans HS.out hkp.size)
        have HOwn := H_ (show ∀ k, v'.ownBlock = some k → k ≠ g7 by
         intro k e
         rcases hat with e2 | e2
         ·exact HOw.out k (e2 ▸ e)
         ·rw [e2] at e
          injection e with e
          have h2 := Blk.lt HLi.out.blk
          try simp at e
          omega)
        have HLin := H_ (show Lies .i64 3 B7 PL (.slice (some ⟨g7, 0, none⟩) PL.length c7) g7 c7 cur7 w8 from { HLi.out with blk := hkp.obj (show wr.heap[g7]? = _ from HLi.out.blk) (fun e => HOw.out _ e rfl) })
        clear hkp hown' hgrow hat
        go_wp2_with fail
        go_roundw
        case rel => exact ⟨j + 1, by have := HJl.out; omega, by go_num, by rw [HTk.out]; exact HVn.out, HOwn.out, HLin.out, HR1n.out, HBn.out, HSn.out⟩
        case measure => simp [intOf]; have := HJl.out; omega
       ·obtain rfl : j = PL.length := by omega
        have HTt := H_ (show dropT p (k + 1) = dropT p k ++ (PL.take PL.length).map (dmv k) by rw [HDn.out, HKs.out, List.take_length])
        go_wp2_with fail
        go_roundw
        case rel => exact ⟨k + 1, by have := HK6.out; omega, by go_num, by rw [HTt.out]; exact HV.out, HR1.out, HB.out, HS.out⟩
        case measure => simp [intOf]; have := HK6.out; omega
     ·have hnil : PL = [] := List.eq_nil_of_length_eq_zero (by omega)
      have HTt := H_ (show dropT p (k + 1) = dropT p k by rw [HDn.out, HKs.out, hnil, List.map_nil, List.append_nil])
      have hl0 : PL.length = 0 := by rw [hnil]; rfl
      rw [hl0]
      clear hq7 hn7 hB7 hne hnil hl0
      go_loopw [3, 29] (fun v i wr => i = .int .i64 0 ∧ MvsO (b1 + 1) (dropT p k) v wr ∧ Row wr b1 p ∧ Below w.heap.size w wr ∧ b1 + 1 ≤ wr.heap.size) (fun _ _ _ => 0)
      case atStart => exact ⟨rfl, HV.out, HR1.out, HB.out, HS.out⟩
      case round =>
       clear HV HR1 HB HS
       obtain ⟨rfl, hv, hr1, hb, hs⟩ := hrel
       have HV := H_ hv
       have HR1 := H_ hr1
       have HB := H_ hb
       have HS := H_ hs
       clear hv hr1 hb hs
       go_wp2_with fail
       go_roundw
       case rel => exact ⟨k + 1, by have := HK6.out; omega, by go_num, by rw [HTt.out]; exact HV.out, HR1.out, HB.out, HS.out⟩
       case measure => simp [intOf]; have := HK6.out; omega
    ·have HTt := H_ (show dropT p (k + 1) = dropT p k by rw [HDn.out, drK_no (by rw [hx, gx]), List.append_nil])
     clear hx
     go_wp2_with (first
     | (guard_target = gL 1; refine step_load rfl _ rfl b1 rfl p HR1.out ?_)
     | (guard_target = gL 19; refine gU rfl 5 _ rfl Tryz.underlying5 HR1.out 78 (by decide) rfl rfl ?_)
     | (go_at_call 83; refine (dr_held p (p 78) (k : Int) _ HP.out.turn.1).mono ?_; rintro e w5 ⟨rfl, hb⟩; rw [HH.out]; have HR1 := H_ (HR1.out.later hb); have HV := H_ (HV.out.later hb); have HS := H_ (Nat.le_trans HS.out hb.size); have HB := H_ (below_on HB.out hb); clear hb))
     go_roundw
     case rel => exact ⟨k + 1, by have := HK6.out; omega, by go_num, by rw [HTt.out]; exact HV.out, HR1.out, HB.out, HS.out⟩
     case measure => simp [intOf]; have := HK6.out; omega
   ·obtain rfl : k = 6 := by omega
    go_wp2_with fail
    try rw [Exit.noGoto_ret]
    exact bodyPost_ret (results_tmp rfl _ _ _) rfl ⟨_, rfl, by rw [HL.out]; exact World.ownsRow.mono HV.out (Nat.le_succ_of_le HG1.out), HB.out⟩
end Go.Proofs.YteblmnbagbdiiaaGreatDoor
