/-
 Contracts of drop's hasPlace, held, open, Held, Men, Add, Take.
-/
import Derived.Test.YtidgfadbdgheiaaGreatDoorDrMath
import Derived.Test.YtidgfadbdgheiaaGreatDoorVaBaseE
import Derived.Test.YtidgfadbdgheiaaGreatDoorAfBaseK
namespace Go.Proofs.YtidgfadbdgheiaaGreatDoor
open Go.RowKit Go.Shelf
set_option linter.unusedVariables false
set_option linter.unusedSimpArgs false
attribute [local go_sem] Oper.semAt_some

theorem xor_full {b : Nat} (hb : b < W64) : bits .xor .u64 18446744073709551615 (b : Int) = (((18446744073709551615 ^^^ b : Nat)) : Int) := by
 have h1 : (BitVec.ofInt 64 (18446744073709551615 : Int)).toNat = 18446744073709551615 := by decide
 have h2 : (BitVec.ofInt 64 (b : Int)).toNat = b := by
  rw [BitVec.ofInt_natCast, BitVec.toNat_ofNat]; exact Nat.mod_eq_of_lt (by unfold W64 at hb; omega)
 show IntKind.u64.wrap ((BitVec.ofInt 64 (18446744073709551615 : Int) ^^^ BitVec.ofInt 64 (b : Int)).toNat : Int) = _
 rw [BitVec.toNat_xor, h1, h2]
 exact wrap_nat _ (Nat.xor_lt_two_pow (n := 64) (by decide) hb)
theorem dr_has (c k : Int) (w : World) : Calls Tryz.prog 91 #[.int .u8 c, .int .u8 k] w (fun e w' => e = .returned (.bool (hasP c k)) ∧ w = w') := by
 unfold hasP
 cases g1 : decide (c ≤ 1)
 ·go_enter Tryz.func91, Tryz.ntmps91
  go_wp2
  go_ret
  exact ⟨rfl, rfl⟩
 ·cases g2 : decide (1 ≤ k)
  ·go_enter Tryz.func91, Tryz.ntmps91
   go_wp2
   go_ret
   exact ⟨rfl, rfl⟩
  ·cases g3 : decide (k < 6)
   all_goals
    go_enter Tryz.func91, Tryz.ntmps91
    go_wp2
    go_ret
    exact ⟨rfl, rfl⟩
theorem dr_open (e : Nat) (k : Nat) (w : World) (he : e < W64) : Calls Tryz.prog 48 #[.int .u64 (e : Int), .int .u8 (k : Int)] w (fun x w' => x = .returned (.int .u64 ((opN e k : Nat) : Int)) ∧ w = w') := by
 have HN := Lib.hid (show bits .andNot .u64 (e : Int) 18374686479671623935 = ((e ^^^ (e &&& outN) : Nat) : Int) from andNot_nat he (b := outN) (by decide))
 have hk : ((k : Int) == 1) = (k == 1) := by
  rw [Bool.eq_iff_iff]; simp only [beq_iff_eq]; omega
 unfold opN
 cases g : (k == 1)
 ·rw [g] at hk
  clear HN
  go_enter Tryz.func48, Tryz.ntmps48
  go_wp2
  go_ret
  exact ⟨rfl, rfl⟩
 ·rw [g] at hk
  go_enter Tryz.func48, Tryz.ntmps48
  go_wp2
  go_ret
  exact ⟨by rw [cond_true, ← HN.out]; rfl, rfl⟩
theorem kAt_pk {i : Nat} (h0 : 66 ≤ i) (h : i < 78) : kAt i = .u8 := by unfold kAt; rw [if_neg (by omega), if_neg (by omega), if_neg (by omega)]
set_option maxRecDepth 100000 in
set_option maxHeartbeats 1000000 in
theorem dr_held (p : Nat → Int) (c k : Int) (w : World) (hc : 0 ≤ c) : Calls Tryz.prog 46 #[.agg (posA p), .int .u8 c, .int .u8 k] w (U8L (helC p c k) w) := by
 have HB := Lib.hid (Below.refl w.heap.size w)
 cases gh : hasP c k
 ·have HA := Lib.hid gh
  have HS := Lib.hid (helC_out (p := p) gh)
  clear gh
  go_enter Tryz.func46, Tryz.ntmps46
  go_wp2_with (first
   | (guard_target = Go.wpList _ _ _ ((⟨some 3, .box _ _, _, _, _, _⟩ : Go.Oper) :: _) _ _; refine step_box rfl _ rfl p rfl ?_; intro b3 w1 N R; have HG3 := Lib.hid (show w.heap.size ≤ b3 by have := HB.out.size; have := N.at_; omega); have HB := Lib.hid (below_on HB.out N.below); have HR3 := Lib.hid R; clear N R)
   | (go_at_call 91; refine (dr_has c k _).mono ?_; rintro e w3 ⟨rfl, rfl⟩; rw [HA.out]))
  go_ret
  exact ⟨by rw [HS.out]; rfl, HB.out⟩
 ·have HA := Lib.hid gh
  have HS := Lib.hid (helC_yes (p := p) gh)
  have hh := hasP_true.1 gh
  obtain ⟨c, rfl⟩ := Int.eq_ofNat_of_zero_le hc
  obtain ⟨k, rfl⟩ := Int.eq_ofNat_of_zero_le (show 0 ≤ k by omega)
  have hc1 : c ≤ 1 := by omega
  have hk6 : k < 6 := by omega
  have HI := Lib.hid (show 66 ≤ 66 + c * 6 + k by omega)
  have HI2 := Lib.hid (show 66 + c * 6 + k < 78 by omega)
  rw [pkJ_at] at HS
  clear gh hh hc
  go_enter Tryz.func46, Tryz.ntmps46
  go_wp2_with (first
   | (guard_target = Go.wpList _ _ _ ((⟨some 3, .box _ _, _, _, _, _⟩ : Go.Oper) :: _) _ _; refine step_box rfl _ rfl p rfl ?_; intro b3 w1 N R; have HG3 := Lib.hid (show w.heap.size ≤ b3 by have := HB.out.size; have := N.at_; omega); have HB := Lib.hid (below_on HB.out N.below); have HR3 := Lib.hid R; clear N R)
   | (go_at_call 91; refine (dr_has c k _).mono ?_; rintro e w3 ⟨rfl, rfl⟩; rw [HA.out])
   | (guard_target = Go.wpList _ _ _ ((⟨some _, .load _ (.tmp 15), _, _, _, _⟩ : Go.Oper) :: _) _ _; refine step_get rfl 5 _ rfl b3 (66 + c * 6 + k) rfl Tryz.underlying5 rfl (.int .u8 (p (66 + c * 6 + k))) ?_ ?_; exact (HR3.out.cell (66 + c * 6 + k) (by have := HI2.out; omega)).trans (by rw [kAt_pk HI.out HI2.out])))
  go_ret
  exact ⟨by rw [HS.out]; rfl, HB.out⟩
theorem late_cellD {o : Oper} {a : Act} {w : World} {K : Act → World → Prop} {Q : Exit → Act → World → Prop} (ty : TypeId) (x y : Operand) (ho : o.op = .store ty x y) (b i : Nat) (hx : a.eval x = .pointer (some ⟨b, i, none⟩)) (k : IntKind) (v : Int) (hy : a.eval y = .int k v)
  (p : Nat → Int) (hr : Row w b p) (hi : i < 88) (hk : kAt i = k) (hs : (Tryz.prog.info? ty).map (·.size) = some 1) (h : ∀ w', Upd b w w' → Row w' b (upd p i v) → K (a.put o.dst undef) w') : Wp Tryz.prog o a w K Q := ⟨by
 subst hk
 have hrun : (storeVar ty ⟨b, i, none⟩ (.int (kAt i) v)).run Tryz.prog w = .ok () (w.setCell ⟨b, i, none⟩ (.int (kAt i) v)) :=
  run_storeVar_mid w b i ty #[.int (kAt i) v] (hr.there i 1 (by omega)) hs (by simp [Value.oneCell'])
 unfold Oper.wp execOp
 simp only [ho, hx, hy, Instr.storeAt, Instr.sureAddr, Sem.run_bind, Sem.run_pure, Result.andThen_ok, hrun]
 exact h _ (Upd.setCell w b i _) (hr.set i v hi)⟩
theorem hasP_nat {c k : Int} (hc : 0 ≤ c) (h : hasP c k = true) : ∃ a b : Nat, c = (a : Int) ∧ k = (b : Int) ∧ a ≤ 1 ∧ 1 ≤ b ∧ b < 6 := by
 have hh := hasP_true.1 h
 obtain ⟨a, rfl⟩ := Int.eq_ofNat_of_zero_le hc
 obtain ⟨b, rfl⟩ := Int.eq_ofNat_of_zero_le (show 0 ≤ k by omega)
 exact ⟨a, b, rfl, rfl, by omega, by omega, by omega⟩
set_option maxRecDepth 100000 in
set_option maxHeartbeats 1000000 in
theorem dr_Add (p : Nat → Int) (c k : Int) (w : World) (hc : 0 ≤ c) (hp : DrR p) : Calls Tryz.prog 121 #[.agg (posA p), .int .u8 c, .int .u8 k] w (PosL (addP p c k) w) := by
 have HB := Lib.hid (Below.refl w.heap.size w)
 cases gh : hasP c k
 ·have HA := Lib.hid gh
  have HS := Lib.hid (show addP p c k = p by unfold addP; rw [gh]; rfl)
  clear gh hp
  go_enter Tryz.func121, Tryz.ntmps121
  go_wp2_with (first
   | (guard_target = Go.wpList _ _ _ ((⟨some 3, .box _ _, _, _, _, _⟩ : Go.Oper) :: _) _ _; refine step_box rfl _ rfl p rfl ?_; intro b3 w1 N R; have HG3 := Lib.hid (show w.heap.size ≤ b3 by have := HB.out.size; have := N.at_; omega); have HB := Lib.hid (below_on HB.out N.below); have HR3 := Lib.hid R; clear N R)
   | (guard_target = Go.wpList _ _ _ ((⟨some 6, .alloc _, _, _, _, _⟩ : Go.Oper) :: _) _ _; refine step_alloc rfl rfl ?_; intro b6 w2 N R; have HD := Lib.hid (show b3 ≠ b6 by have := HR3.out.lt; have := N.at_; omega); have HG6 := Lib.hid (show w.heap.size ≤ b6 by have := HB.out.size; have := N.at_; omega); have HR3 := Lib.hid (HR3.out.later N.below); have HB := Lib.hid (below_on HB.out N.below); have HR6 := Lib.hid R; clear N R)
   | (go_at_call 91; refine (dr_has _ _ _).mono ?_; rintro e w3 ⟨rfl, rfl⟩; rw [HA.out])
   | (guard_target = Go.wpList _ _ _ ((⟨some _, .load _ (.tmp 3), _, _, _, _⟩ : Go.Oper) :: _) _ _; refine step_load rfl _ rfl b3 rfl p HR3.out ?_)
   | (guard_target = Go.wpList _ _ _ ((⟨none, .store _ (.tmp 6) _, _, _, _, _⟩ : Go.Oper) :: _) _ _; refine step_store rfl _ _ rfl b6 rfl zeroP (p) rfl HR6.out ?_; intro w2 U R; have HR3 := Lib.hid (HR3.out.apart U HD.out); have HR6 := Lib.hid R; have HB := Lib.hid (HB.out.trans (U.below HG6.out)); clear U R))
  refine bodyPost_ret (v := .agg (posA (p))) (results_row rfl _ _ _ _ rfl HR6.out) rfl ⟨by rw [HS.out], HB.out⟩
 ·have HA := Lib.hid gh
  obtain ⟨c, k, rfl, rfl, hc1, hk1, hk6⟩ := hasP_nat hc gh
  have HI := Lib.hid (show 66 ≤ 66 + c * 6 + k by omega)
  have HI2 := Lib.hid (show 66 + c * 6 + k < 78 by omega)
  have hr := hp.pk (66 + c * 6 + k) (by omega) (by omega)
  obtain ⟨x, hx⟩ : ∃ x, p (66 + c * 6 + k) = x := ⟨_, rfl⟩
  have HX := Lib.hid hx
  rw [hx] at hr
  cases gx : decide (x < 255)
  ·have HS := Lib.hid (show addP p (c : Int) (k : Int) = p by unfold addP; rw [gh, pkJ_at, hx, gx]; rfl)
   clear gh hp hc hx
   go_enter Tryz.func121, Tryz.ntmps121
   go_wp2_with (first
   | (guard_target = Go.wpList _ _ _ ((⟨some 3, .box _ _, _, _, _, _⟩ : Go.Oper) :: _) _ _; refine step_box rfl _ rfl p rfl ?_; intro b3 w1 N R; have HG3 := Lib.hid (show w.heap.size ≤ b3 by have := HB.out.size; have := N.at_; omega); have HB := Lib.hid (below_on HB.out N.below); have HR3 := Lib.hid R; clear N R)
   | (guard_target = Go.wpList _ _ _ ((⟨some 6, .alloc _, _, _, _, _⟩ : Go.Oper) :: _) _ _; refine step_alloc rfl rfl ?_; intro b6 w2 N R; have HD := Lib.hid (show b3 ≠ b6 by have := HR3.out.lt; have := N.at_; omega); have HG6 := Lib.hid (show w.heap.size ≤ b6 by have := HB.out.size; have := N.at_; omega); have HR3 := Lib.hid (HR3.out.later N.below); have HB := Lib.hid (below_on HB.out N.below); have HR6 := Lib.hid R; clear N R)
   | (go_at_call 91; refine (dr_has _ _ _).mono ?_; rintro e w3 ⟨rfl, rfl⟩; rw [HA.out])
   | (guard_target = Go.wpList _ _ _ ((⟨some _, .load _ (.tmp 3), _, _, _, _⟩ : Go.Oper) :: _) _ _; refine step_load rfl _ rfl b3 rfl p HR3.out ?_)
   | (guard_target = Go.wpList _ _ _ ((⟨some _, .load _ (.tmp 15), _, _, _, _⟩ : Go.Oper) :: _) _ _; refine step_get rfl 5 _ rfl b3 (66 + c * 6 + k) rfl Tryz.underlying5 rfl (.int .u8 x) ?_ ?_; exact (HR3.out.cell (66 + c * 6 + k) (by have := HI2.out; omega)).trans (by rw [kAt_pk HI.out HI2.out, HX.out]))
   | (guard_target = Go.wpList _ _ _ ((⟨none, .store _ (.tmp 6) _, _, _, _, _⟩ : Go.Oper) :: _) _ _; refine step_store rfl _ _ rfl b6 rfl zeroP (p) rfl HR6.out ?_; intro w2 U R; have HR3 := Lib.hid (HR3.out.apart U HD.out); have HR6 := Lib.hid R; have HB := Lib.hid (HB.out.trans (U.below HG6.out)); clear U R))
   refine bodyPost_ret (v := .agg (posA (p))) (results_row rfl _ _ _ _ rfl HR6.out) rfl ⟨by rw [HS.out], HB.out⟩
  ·have HS := Lib.hid (show addP p (c : Int) (k : Int) = upd p (66 + c * 6 + k) (x + 1) by unfold addP; rw [gh, pkJ_at, hx, gx]; rfl)
   have hx2 := of_decide_eq_true gx
   clear gh hp hc hx
   go_enter Tryz.func121, Tryz.ntmps121
   go_wp2_with (first
   | (guard_target = Go.wpList _ _ _ ((⟨some 3, .box _ _, _, _, _, _⟩ : Go.Oper) :: _) _ _; refine step_box rfl _ rfl p rfl ?_; intro b3 w1 N R; have HG3 := Lib.hid (show w.heap.size ≤ b3 by have := HB.out.size; have := N.at_; omega); have HB := Lib.hid (below_on HB.out N.below); have HR3 := Lib.hid R; clear N R)
   | (guard_target = Go.wpList _ _ _ ((⟨some 6, .alloc _, _, _, _, _⟩ : Go.Oper) :: _) _ _; refine step_alloc rfl rfl ?_; intro b6 w2 N R; have HD := Lib.hid (show b3 ≠ b6 by have := HR3.out.lt; have := N.at_; omega); have HG6 := Lib.hid (show w.heap.size ≤ b6 by have := HB.out.size; have := N.at_; omega); have HR3 := Lib.hid (HR3.out.later N.below); have HB := Lib.hid (below_on HB.out N.below); have HR6 := Lib.hid R; clear N R)
   | (go_at_call 91; refine (dr_has _ _ _).mono ?_; rintro e w3 ⟨rfl, rfl⟩; rw [HA.out])
   | (guard_target = Go.wpList _ _ _ ((⟨some _, .load _ (.tmp 3), _, _, _, _⟩ : Go.Oper) :: _) _ _; refine step_load rfl _ rfl b3 rfl p HR3.out ?_)
   | (guard_target = Go.wpList _ _ _ ((⟨some _, .load _ (.tmp 15), _, _, _, _⟩ : Go.Oper) :: _) _ _; refine step_get rfl 5 _ rfl b3 (66 + c * 6 + k) rfl Tryz.underlying5 rfl (.int .u8 x) ?_ ?_; exact (HR3.out.cell (66 + c * 6 + k) (by have := HI2.out; omega)).trans (by rw [kAt_pk HI.out HI2.out, HX.out])))
   refine late_begin 10 (by kernel_rfl) ?_
   refine ltk 0 (by kernel_rfl) (fun _ _ d _ _ h => by cases d <;> exact h) (fun o ho => ?_)
   simp only [qa, qb, qc, qd] at ho; subst ho
   apply Exists.intro
   refine ⟨Or.inl ⟨by kernel_rfl, fun w' hl => Or.inl ?_⟩, ?_⟩
   ·(go_simp; try with_reducible rfl)
   simp only [Act.put, pa, pb, pc]
   refine ltk 1 (by kernel_rfl) (fun _ _ d _ _ h => by cases d <;> exact h) (fun o ho => ?_)
   simp only [qa, qb, qc, qd] at ho; subst ho
   apply Exists.intro
   refine ⟨Or.inl ⟨by kernel_rfl, fun w' hl => Or.inl ?_⟩, ?_⟩
   ·(go_simp; try with_reducible rfl)
   simp only [Act.put, pa, pb, pc]
   refine ltk 2 (by kernel_rfl) (fun _ _ d _ _ h => by cases d <;> exact h) (fun o ho => ?_)
   simp only [qa, qb, qc, qd] at ho; subst ho
   apply Exists.intro
   refine ⟨Or.inl ⟨by kernel_rfl, fun w' hl => Or.inl ?_⟩, ?_⟩
   ·(go_simp; try with_reducible rfl)
   simp only [Act.put, pa, pb, pc]
   refine ltk 3 (by kernel_rfl) (fun _ _ d _ _ h => by cases d <;> exact h) (fun o ho => ?_)
   simp only [qa, qb, qc, qd] at ho; subst ho
   refine ⟨.pointer (some ⟨b3, 66 + c * 6, none⟩), Or.inl ⟨by kernel_rfl, fun w' hl => Or.inl ?_⟩, ?_⟩
   ·(go_simp; first | done | (with_reducible rfl) | (intro hbad; exfalso; omega))
   simp only [Act.put, pa, pb, pc]
   refine ltk 4 (by kernel_rfl) (fun _ _ d _ _ h => by cases d <;> exact h) (fun o ho => ?_)
   simp only [qa, qb, qc, qd] at ho; subst ho
   refine ⟨.pointer (some ⟨b3, 66 + c * 6 + k, none⟩), Or.inl ⟨by kernel_rfl, fun w' hl => Or.inl ?_⟩, ?_⟩
   ·(go_simp; first | done | (with_reducible rfl) | (intro hbad; exfalso; omega))
   simp only [Act.put, pa, pb, pc]
   refine ltk 5 (by kernel_rfl) (fun _ _ d _ _ h => by cases d <;> exact h) (fun o ho => ?_)
   simp only [qa, qb, qc, qd] at ho; subst ho
   refine ⟨.int .u8 x, Or.inl ⟨by kernel_rfl, fun w' hl => Or.inl (run_get 5 _ rfl b3 (66 + c * 6 + k) rfl Tryz.underlying5 rfl (.int .u8 x) (((HR3.out.later hl).cell (66 + c * 6 + k) (by have := HI2.out; omega)).trans (by rw [kAt_pk HI.out HI2.out, HX.out])))⟩, ?_⟩
   simp only [Act.put, pa, pb, pc]
   refine ltk 6 (by kernel_rfl) (fun _ _ d _ _ h => by cases d <;> exact h) (fun o ho => ?_)
   simp only [qa, qb, qc, qd] at ho; subst ho
   refine ⟨.int .u8 (x + 1), Or.inl ⟨by kernel_rfl, fun w' hl => Or.inl ?_⟩, ?_⟩
   ·go_simp; exact IntWalk.u8_in _ (by omega)
   simp only [Act.put, pa, pb, pc]
   refine late_takeD 7 [8, 9, 10] (by kernel_rfl) (by kernel_rfl) (by kernel_rfl) (by kernel_rfl) (by kernel_rfl) (fun _ _ d _ _ h => by cases d <;> exact h) (fun o ho => ?_)
   simp only [qa, qb, qc, qd] at ho; subst ho
   apply Exists.intro
   refine ⟨Or.inl ⟨by kernel_rfl, fun w' hl => Or.inl ?_⟩, ?_⟩
   ·(go_simp; try with_reducible rfl)
   simp only [Act.put, pa, pb, pc]
   refine late_takeD 8 [9, 10] (by kernel_rfl) (by kernel_rfl) (by kernel_rfl) (by kernel_rfl) (by kernel_rfl) (fun _ _ d _ _ h => by cases d <;> exact h) (fun o ho => ?_)
   simp only [qa, qb, qc, qd] at ho; subst ho
   refine ⟨.pointer (some ⟨b3, 66 + c * 6, none⟩), Or.inl ⟨by kernel_rfl, fun w' hl => Or.inl ?_⟩, ?_⟩
   ·(go_simp; first | done | (with_reducible rfl) | (intro hbad; exfalso; omega))
   simp only [Act.put, pa, pb, pc]
   refine ltk 9 (by kernel_rfl) (fun _ _ d _ _ h => by cases d <;> exact h) (fun o ho => ?_)
   simp only [qa, qb, qc, qd] at ho; subst ho
   refine ⟨.pointer (some ⟨b3, 66 + c * 6 + k, none⟩), Or.inl ⟨by kernel_rfl, fun w' hl => Or.inl ?_⟩, ?_⟩
   ·(go_simp; first | done | (with_reducible rfl) | (intro hbad; exfalso; omega))
   simp only [Act.put, pa, pb, pc]
   refine late_last 10 (by kernel_rfl) (by kernel_rfl) (by kernel_rfl) (fun o ho => ?_)
   simp only [qa, qb, qc, qd] at ho; subst ho
   refine ⟨by kernel_rfl, fun wn hl K hK => ?_⟩
   have HR3 := Lib.hid (HR3.out.later hl); have HR6 := Lib.hid (HR6.out.later hl); have HB := Lib.hid (below_on HB.out hl); clear hl
   refine late_cellD 5 _ _ rfl b3 (66 + c * 6 + k) rfl .u8 (x + 1) rfl p HR3.out (by have := HI2.out; omega) (kAt_pk HI.out HI2.out) size5 ?_; intro wm U R
   have HR6 := Lib.hid (HR6.out.apart U (Ne.symm HD.out)); have HR3 := Lib.hid R; have HB := Lib.hid (HB.out.trans (U.below HG3.out)); clear U R
   refine hK.out _ _ ?_
   clear hK K
   simp only [Act.put, pa, pb, pc]
   go_wp2_with (first
   | (guard_target = Go.wpList _ _ _ ((⟨some _, .load _ (.tmp 3), _, _, _, _⟩ : Go.Oper) :: _) _ _; refine step_load rfl _ rfl b3 rfl (upd p (66 + c * 6 + k) (x + 1)) HR3.out ?_)
   | (guard_target = Go.wpList _ _ _ ((⟨none, .store _ (.tmp 6) _, _, _, _, _⟩ : Go.Oper) :: _) _ _; refine step_store rfl _ _ rfl b6 rfl zeroP (upd p (66 + c * 6 + k) (x + 1)) rfl HR6.out ?_; intro w2 U R; have HR3 := Lib.hid (HR3.out.apart U HD.out); have HR6 := Lib.hid R; have HB := Lib.hid (HB.out.trans (U.below HG6.out)); clear U R))
   refine bodyPost_ret (v := .agg (posA (upd p (66 + c * 6 + k) (x + 1)))) (results_row rfl _ _ _ _ rfl HR6.out) rfl ⟨by rw [HS.out], HB.out⟩
def TakL (q : Nat → Int) (b : Bool) (w : World) (e : Ending) (w' : World) : Prop := e = .returned (.tuple #[.agg (posA q), .bool b]) ∧ Below w.heap.size w w'
set_option maxRecDepth 100000 in
set_option maxHeartbeats 1000000 in
theorem dr_Take (p : Nat → Int) (c k : Int) (w : World) (hc : 0 ≤ c) (hp : DrR p) : Calls Tryz.prog 115 #[.agg (posA p), .int .u8 c, .int .u8 k] w (TakL (takP p c k) (!(helC p c k == 0)) w) := by
 have HB := Lib.hid (Below.refl w.heap.size w)
 have HC0 := Lib.hid hc
 cases g0 : (helC p c k == 0)
 ·have hb := Bool.eq_false_iff.1 g0
  cases gh : hasP c k
  ·exact absurd (by rw [helC_out gh]; rfl) hb
  have gv := helC_yes (p := p) gh
  rw [gv] at g0
  obtain ⟨c, k, rfl, rfl, hc1, hk1, hk6⟩ := hasP_nat hc gh
  have HI := Lib.hid (show 66 ≤ 66 + c * 6 + k by omega)
  have HI2 := Lib.hid (show 66 + c * 6 + k < 78 by omega)
  have hr := hp.pk (66 + c * 6 + k) (by omega) (by omega)
  obtain ⟨x, hx⟩ : ∃ x, p (66 + c * 6 + k) = x := ⟨_, rfl⟩
  have HX := Lib.hid hx
  rw [hx] at hr
  rw [pkJ_at, hx] at g0 gv
  have HV := Lib.hid gv
  have hx0 : x ≠ 0 := by simpa using g0
  have HS := Lib.hid (show takP p (c : Int) (k : Int) = upd p (66 + c * 6 + k) (x - 1) by unfold takP; rw [gv, g0, pkJ_at, hx]; rfl)
  clear gh hp hc hx gv hb
  go_enter Tryz.func115, Tryz.ntmps115
  go_wp2_with (first
   | (guard_target = Go.wpList _ _ _ ((⟨some 3, .box _ _, _, _, _, _⟩ : Go.Oper) :: _) _ _; refine step_box rfl _ rfl p rfl ?_; intro b3 w1 N R; have HG3 := Lib.hid (show w.heap.size ≤ b3 by have := HB.out.size; have := N.at_; omega); have HB := Lib.hid (below_on HB.out N.below); have HR3 := Lib.hid R; clear N R)
   | (guard_target = Go.wpList _ _ _ ((⟨some 6, .alloc _, _, _, _, _⟩ : Go.Oper) :: _) _ _; refine step_alloc rfl rfl ?_; intro b6 w2 N R; have HD := Lib.hid (show b3 ≠ b6 by have := HR3.out.lt; have := N.at_; omega); have HG6 := Lib.hid (show w.heap.size ≤ b6 by have := HB.out.size; have := N.at_; omega); have HR3 := Lib.hid (HR3.out.later N.below); have HB := Lib.hid (below_on HB.out N.below); have HR6 := Lib.hid R; clear N R)
   | (go_at_call 46; refine (dr_held p _ _ _ HC0.out).mono ?_; rintro e w3 ⟨rfl, hb⟩; rw [HV.out]; have HR3 := Lib.hid (HR3.out.later hb); have HR6 := Lib.hid (HR6.out.later hb); have HB := Lib.hid (below_on HB.out hb); clear hb)
   | (guard_target = Go.wpList _ _ _ ((⟨some _, .load _ (.tmp 3), _, _, _, _⟩ : Go.Oper) :: _) _ _; refine step_load rfl _ rfl b3 rfl p HR3.out ?_))
  refine late_begin 10 (by kernel_rfl) ?_
  refine ltk 0 (by kernel_rfl) (fun _ _ d _ _ h => by cases d <;> exact h) (fun o ho => ?_)
  simp only [qa, qb, qc, qd] at ho; subst ho
  apply Exists.intro
  refine ⟨Or.inl ⟨by kernel_rfl, fun w' hl => Or.inl ?_⟩, ?_⟩
  ·(go_simp; try with_reducible rfl)
  simp only [Act.put, pa, pb, pc]
  refine ltk 1 (by kernel_rfl) (fun _ _ d _ _ h => by cases d <;> exact h) (fun o ho => ?_)
  simp only [qa, qb, qc, qd] at ho; subst ho
  apply Exists.intro
  refine ⟨Or.inl ⟨by kernel_rfl, fun w' hl => Or.inl ?_⟩, ?_⟩
  ·(go_simp; try with_reducible rfl)
  simp only [Act.put, pa, pb, pc]
  refine ltk 2 (by kernel_rfl) (fun _ _ d _ _ h => by cases d <;> exact h) (fun o ho => ?_)
  simp only [qa, qb, qc, qd] at ho; subst ho
  apply Exists.intro
  refine ⟨Or.inl ⟨by kernel_rfl, fun w' hl => Or.inl ?_⟩, ?_⟩
  ·(go_simp; try with_reducible rfl)
  simp only [Act.put, pa, pb, pc]
  refine ltk 3 (by kernel_rfl) (fun _ _ d _ _ h => by cases d <;> exact h) (fun o ho => ?_)
  simp only [qa, qb, qc, qd] at ho; subst ho
  refine ⟨.pointer (some ⟨b3, 66 + c * 6, none⟩), Or.inl ⟨by kernel_rfl, fun w' hl => Or.inl ?_⟩, ?_⟩
  ·(go_simp; first | done | (with_reducible rfl) | (intro hbad; exfalso; omega))
  simp only [Act.put, pa, pb, pc]
  refine ltk 4 (by kernel_rfl) (fun _ _ d _ _ h => by cases d <;> exact h) (fun o ho => ?_)
  simp only [qa, qb, qc, qd] at ho; subst ho
  refine ⟨.pointer (some ⟨b3, 66 + c * 6 + k, none⟩), Or.inl ⟨by kernel_rfl, fun w' hl => Or.inl ?_⟩, ?_⟩
  ·(go_simp; first | done | (with_reducible rfl) | (intro hbad; exfalso; omega))
  simp only [Act.put, pa, pb, pc]
  refine ltk 5 (by kernel_rfl) (fun _ _ d _ _ h => by cases d <;> exact h) (fun o ho => ?_)
  simp only [qa, qb, qc, qd] at ho; subst ho
  refine ⟨.int .u8 x, Or.inl ⟨by kernel_rfl, fun w' hl => Or.inl (run_get 5 _ rfl b3 (66 + c * 6 + k) rfl Tryz.underlying5 rfl (.int .u8 x) (((HR3.out.later hl).cell (66 + c * 6 + k) (by have := HI2.out; omega)).trans (by rw [kAt_pk HI.out HI2.out, HX.out])))⟩, ?_⟩
  simp only [Act.put, pa, pb, pc]
  refine ltk 6 (by kernel_rfl) (fun _ _ d _ _ h => by cases d <;> exact h) (fun o ho => ?_)
  simp only [qa, qb, qc, qd] at ho; subst ho
  refine ⟨.int .u8 (x - 1), Or.inl ⟨by kernel_rfl, fun w' hl => Or.inl ?_⟩, ?_⟩
  ·go_simp; exact IntWalk.u8_in _ (by omega)
  simp only [Act.put, pa, pb, pc]
  refine late_takeD 7 [8, 9, 10] (by kernel_rfl) (by kernel_rfl) (by kernel_rfl) (by kernel_rfl) (by kernel_rfl) (fun _ _ d _ _ h => by cases d <;> exact h) (fun o ho => ?_)
  simp only [qa, qb, qc, qd] at ho; subst ho
  apply Exists.intro
  refine ⟨Or.inl ⟨by kernel_rfl, fun w' hl => Or.inl ?_⟩, ?_⟩
  ·(go_simp; try with_reducible rfl)
  simp only [Act.put, pa, pb, pc]
  refine late_takeD 8 [9, 10] (by kernel_rfl) (by kernel_rfl) (by kernel_rfl) (by kernel_rfl) (by kernel_rfl) (fun _ _ d _ _ h => by cases d <;> exact h) (fun o ho => ?_)
  simp only [qa, qb, qc, qd] at ho; subst ho
  refine ⟨.pointer (some ⟨b3, 66 + c * 6, none⟩), Or.inl ⟨by kernel_rfl, fun w' hl => Or.inl ?_⟩, ?_⟩
  ·(go_simp; first | done | (with_reducible rfl) | (intro hbad; exfalso; omega))
  simp only [Act.put, pa, pb, pc]
  refine ltk 9 (by kernel_rfl) (fun _ _ d _ _ h => by cases d <;> exact h) (fun o ho => ?_)
  simp only [qa, qb, qc, qd] at ho; subst ho
  refine ⟨.pointer (some ⟨b3, 66 + c * 6 + k, none⟩), Or.inl ⟨by kernel_rfl, fun w' hl => Or.inl ?_⟩, ?_⟩
  ·(go_simp; first | done | (with_reducible rfl) | (intro hbad; exfalso; omega))
  simp only [Act.put, pa, pb, pc]
  refine late_last 10 (by kernel_rfl) (by kernel_rfl) (by kernel_rfl) (fun o ho => ?_)
  simp only [qa, qb, qc, qd] at ho; subst ho
  refine ⟨by kernel_rfl, fun wn hl K hK => ?_⟩
  have HR3 := Lib.hid (HR3.out.later hl); have HR6 := Lib.hid (HR6.out.later hl); have HB := Lib.hid (below_on HB.out hl); clear hl
  refine late_cellD 5 _ _ rfl b3 (66 + c * 6 + k) rfl .u8 (x - 1) rfl p HR3.out (by have := HI2.out; omega) (kAt_pk HI.out HI2.out) size5 ?_; intro wm U R
  have HR6 := Lib.hid (HR6.out.apart U (Ne.symm HD.out)); have HR3 := Lib.hid R; have HB := Lib.hid (HB.out.trans (U.below HG3.out)); clear U R
  refine hK.out _ _ ?_
  clear hK K
  simp only [Act.put, pa, pb, pc]
  go_wp2_with (first
   | (guard_target = Go.wpList _ _ _ ((⟨some _, .load _ (.tmp 3), _, _, _, _⟩ : Go.Oper) :: _) _ _; refine step_load rfl _ rfl b3 rfl (upd p (66 + c * 6 + k) (x - 1)) HR3.out ?_)
   | (guard_target = Go.wpList _ _ _ ((⟨none, .store _ (.tmp 6) _, _, _, _, _⟩ : Go.Oper) :: _) _ _; refine step_store rfl _ _ rfl b6 rfl zeroP (upd p (66 + c * 6 + k) (x - 1)) rfl HR6.out ?_; intro w2 U R; have HR3 := Lib.hid (HR3.out.apart U HD.out); have HR6 := Lib.hid R; have HB := Lib.hid (HB.out.trans (U.below HG6.out)); clear U R))
  refine bodyPost_ret (v := .tuple #[.agg (posA (upd p (66 + c * 6 + k) (x - 1))), .bool true]) (results_two rfl _ _ _ _ _ rfl rfl HR6.out) rfl ⟨by rw [HS.out]; rfl, HB.out⟩
 ·have HV := Lib.hid (show helC p c k = 0 by simpa using g0)
  have HS := Lib.hid (show takP p c k = p by unfold takP; rw [g0]; rfl)
  clear g0 hp
  go_enter Tryz.func115, Tryz.ntmps115
  go_wp2_with (first
   | (guard_target = Go.wpList _ _ _ ((⟨some 3, .box _ _, _, _, _, _⟩ : Go.Oper) :: _) _ _; refine step_box rfl _ rfl p rfl ?_; intro b3 w1 N R; have HG3 := Lib.hid (show w.heap.size ≤ b3 by have := HB.out.size; have := N.at_; omega); have HB := Lib.hid (below_on HB.out N.below); have HR3 := Lib.hid R; clear N R)
   | (guard_target = Go.wpList _ _ _ ((⟨some 6, .alloc _, _, _, _, _⟩ : Go.Oper) :: _) _ _; refine step_alloc rfl rfl ?_; intro b6 w2 N R; have HD := Lib.hid (show b3 ≠ b6 by have := HR3.out.lt; have := N.at_; omega); have HG6 := Lib.hid (show w.heap.size ≤ b6 by have := HB.out.size; have := N.at_; omega); have HR3 := Lib.hid (HR3.out.later N.below); have HB := Lib.hid (below_on HB.out N.below); have HR6 := Lib.hid R; clear N R)
   | (go_at_call 46; refine (dr_held p _ _ _ HC0.out).mono ?_; rintro e w3 ⟨rfl, hb⟩; rw [HV.out]; have HR3 := Lib.hid (HR3.out.later hb); have HR6 := Lib.hid (HR6.out.later hb); have HB := Lib.hid (below_on HB.out hb); clear hb)
   | (guard_target = Go.wpList _ _ _ ((⟨some _, .load _ (.tmp 3), _, _, _, _⟩ : Go.Oper) :: _) _ _; refine step_load rfl _ rfl b3 rfl p HR3.out ?_)
   | (guard_target = Go.wpList _ _ _ ((⟨none, .store _ (.tmp 6) _, _, _, _, _⟩ : Go.Oper) :: _) _ _; refine step_store rfl _ _ rfl b6 rfl zeroP (p) rfl HR6.out ?_; intro w2 U R; have HR3 := Lib.hid (HR3.out.apart U HD.out); have HR6 := Lib.hid R; have HB := Lib.hid (HB.out.trans (U.below HG6.out)); clear U R))
  refine bodyPost_ret (v := .tuple #[.agg (posA (p)), .bool false]) (results_two rfl _ _ _ _ _ rfl rfl HR6.out) rfl ⟨by rw [HS.out]; rfl, HB.out⟩
end Go.Proofs.YtidgfadbdgheiaaGreatDoor
