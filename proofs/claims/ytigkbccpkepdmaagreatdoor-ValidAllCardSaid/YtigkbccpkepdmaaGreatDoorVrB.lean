/-
 The document's own Held and Men.
-/
import Derived.Test.YtigkbccpkepdmaaGreatDoorVrA
namespace Go.Proofs.YtigkbccpkepdmaaGreatDoor
open Go.RowKit Go.Shelf
set_option linter.unusedVariables false
set_option linter.unusedSimpArgs false
attribute [local go_sem] Oper.semAt_some

theorem heZ_rng {p : Nat → Int} (hp : FitP p) {c : Nat} (hc : c ≤ 1) : ∀ k, k ≤ 5 → 0 ≤ heZ p c k ∧ heZ p c k ≤ 255 * (k : Int)
 | 0, _ => ⟨Int.le_refl _, Int.le_refl _⟩
 | k + 1, h => by
  have h1 := heZ_rng hp hc k (by omega)
  have h2 := hp.pock (66 + c * 6 + (k + 1)) (by omega) (by omega)
  show 0 ≤ heZ p c k + p (66 + c * 6 + (k + 1)) ∧ heZ p c k + p (66 + c * 6 + (k + 1)) ≤ _
  omega
set_option maxRecDepth 100000 in
set_option maxHeartbeats 2000000 in
theorem vr_held0 (p : Nat → Int) (w : World) (hp : FitP p) : Calls Tryz.prog 60 #[.agg (posA p), .int .u8 0] w (IntL (heZ p 0 5) w) := by
 have HP := Lib.hid hp
 clear hp
 have HB := Lib.hid (Below.refl w.heap.size w)
 go_enter Tryz.func60, Tryz.ntmps60
 go_wp2_with (first
   | (guard_target = Go.wpList _ _ _ ((⟨some 2, .box _ _, _, _, _, _⟩ : Go.Oper) :: _) _ _; refine step_box rfl _ rfl p rfl ?_; intro b2 w1 N R; have HG2 := Lib.hid (show w.heap.size ≤ b2 by have := HB.out.size; have := N.at_; omega); have HB := Lib.hid (below_on HB.out N.below); have HR2 := Lib.hid R; clear N R))
 go_loopw [5, 6] (fun v i wr => ∃ k : Nat, k ≤ 5 ∧ i = .int .i64 ((k : Int) + 1) ∧ v = .int .i64 (heZ p 0 k) ∧ Row wr b2 p ∧ Below w.heap.size w wr) (fun _ i _ => 6 - (intOf i).toNat)
 case atStart => exact ⟨0, by omega, rfl, rfl, HR2.out, HB.out⟩
 case round =>
  clear HR2 HB
  obtain ⟨k, hk, hi, hv, hr, hb⟩ := hrel
  have HR2 := Lib.hid hr
  have HB := Lib.hid hb
  clear hr hb
  rcases (by omega : k = 0 ∨ k = 1 ∨ k = 2 ∨ k = 3 ∨ k = 4 ∨ k = 5) with rfl | rfl | rfl | rfl | rfl | rfl
  ·obtain rfl : u6 = .int .i64 1 := hi
   have hz := heZ_rng HP.out (c := 0) (by decide) 0 (by decide)
   have hx := HP.out.pock 67 (by decide) (by decide)
   obtain ⟨z, hz2⟩ : ∃ z, heZ p 0 0 = z := ⟨_, rfl⟩
   have HN := Lib.hid (show heZ p 0 (0 + 1) = z + p 67 by rw [← hz2]; rfl)
   rw [hz2] at hz hv
   obtain rfl : u5 = .int .i64 z := hv
   have hz3 : z ≤ 2000 := by omega
   have hz4 := hz.1
   obtain ⟨hx0, hx1⟩ := hx
   clear hz2 hz
   go_wp2_with (guard_target = Go.wpList _ _ _ ((⟨some _, .load _ (.tmp 20), _, _, _, _⟩ : Go.Oper) :: _) _ _; refine step_get rfl 5 _ rfl b2 67 rfl Tryz.underlying5 rfl (.int .u8 (p 67)) ?_ ?_; exact HR2.out.cell 67 (by decide))
   go_roundw
   case rel => exact ⟨0 + 1, by decide, by first | rfl | go_num, by rw [HN.out], HR2.out, HB.out⟩
   case measure => simp [intOf]
  ·obtain rfl : u6 = .int .i64 2 := hi
   have hz := heZ_rng HP.out (c := 0) (by decide) 1 (by decide)
   have hx := HP.out.pock 68 (by decide) (by decide)
   obtain ⟨z, hz2⟩ : ∃ z, heZ p 0 1 = z := ⟨_, rfl⟩
   have HN := Lib.hid (show heZ p 0 (1 + 1) = z + p 68 by rw [← hz2]; rfl)
   rw [hz2] at hz hv
   obtain rfl : u5 = .int .i64 z := hv
   have hz3 : z ≤ 2000 := by omega
   have hz4 := hz.1
   obtain ⟨hx0, hx1⟩ := hx
   clear hz2 hz
   go_wp2_with (guard_target = Go.wpList _ _ _ ((⟨some _, .load _ (.tmp 20), _, _, _, _⟩ : Go.Oper) :: _) _ _; refine step_get rfl 5 _ rfl b2 68 rfl Tryz.underlying5 rfl (.int .u8 (p 68)) ?_ ?_; exact HR2.out.cell 68 (by decide))
   go_roundw
   case rel => exact ⟨1 + 1, by decide, by first | rfl | go_num, by rw [HN.out], HR2.out, HB.out⟩
   case measure => simp [intOf]
  ·obtain rfl : u6 = .int .i64 3 := hi
   have hz := heZ_rng HP.out (c := 0) (by decide) 2 (by decide)
   have hx := HP.out.pock 69 (by decide) (by decide)
   obtain ⟨z, hz2⟩ : ∃ z, heZ p 0 2 = z := ⟨_, rfl⟩
   have HN := Lib.hid (show heZ p 0 (2 + 1) = z + p 69 by rw [← hz2]; rfl)
   rw [hz2] at hz hv
   obtain rfl : u5 = .int .i64 z := hv
   have hz3 : z ≤ 2000 := by omega
   have hz4 := hz.1
   obtain ⟨hx0, hx1⟩ := hx
   clear hz2 hz
   go_wp2_with (guard_target = Go.wpList _ _ _ ((⟨some _, .load _ (.tmp 20), _, _, _, _⟩ : Go.Oper) :: _) _ _; refine step_get rfl 5 _ rfl b2 69 rfl Tryz.underlying5 rfl (.int .u8 (p 69)) ?_ ?_; exact HR2.out.cell 69 (by decide))
   go_roundw
   case rel => exact ⟨2 + 1, by decide, by first | rfl | go_num, by rw [HN.out], HR2.out, HB.out⟩
   case measure => simp [intOf]
  ·obtain rfl : u6 = .int .i64 4 := hi
   have hz := heZ_rng HP.out (c := 0) (by decide) 3 (by decide)
   have hx := HP.out.pock 70 (by decide) (by decide)
   obtain ⟨z, hz2⟩ : ∃ z, heZ p 0 3 = z := ⟨_, rfl⟩
   have HN := Lib.hid (show heZ p 0 (3 + 1) = z + p 70 by rw [← hz2]; rfl)
   rw [hz2] at hz hv
   obtain rfl : u5 = .int .i64 z := hv
   have hz3 : z ≤ 2000 := by omega
   have hz4 := hz.1
   obtain ⟨hx0, hx1⟩ := hx
   clear hz2 hz
   go_wp2_with (guard_target = Go.wpList _ _ _ ((⟨some _, .load _ (.tmp 20), _, _, _, _⟩ : Go.Oper) :: _) _ _; refine step_get rfl 5 _ rfl b2 70 rfl Tryz.underlying5 rfl (.int .u8 (p 70)) ?_ ?_; exact HR2.out.cell 70 (by decide))
   go_roundw
   case rel => exact ⟨3 + 1, by decide, by first | rfl | go_num, by rw [HN.out], HR2.out, HB.out⟩
   case measure => simp [intOf]
  ·obtain rfl : u6 = .int .i64 5 := hi
   have hz := heZ_rng HP.out (c := 0) (by decide) 4 (by decide)
   have hx := HP.out.pock 71 (by decide) (by decide)
   obtain ⟨z, hz2⟩ : ∃ z, heZ p 0 4 = z := ⟨_, rfl⟩
   have HN := Lib.hid (show heZ p 0 (4 + 1) = z + p 71 by rw [← hz2]; rfl)
   rw [hz2] at hz hv
   obtain rfl : u5 = .int .i64 z := hv
   have hz3 : z ≤ 2000 := by omega
   have hz4 := hz.1
   obtain ⟨hx0, hx1⟩ := hx
   clear hz2 hz
   go_wp2_with (guard_target = Go.wpList _ _ _ ((⟨some _, .load _ (.tmp 20), _, _, _, _⟩ : Go.Oper) :: _) _ _; refine step_get rfl 5 _ rfl b2 71 rfl Tryz.underlying5 rfl (.int .u8 (p 71)) ?_ ?_; exact HR2.out.cell 71 (by decide))
   go_roundw
   case rel => exact ⟨4 + 1, by decide, by first | rfl | go_num, by rw [HN.out], HR2.out, HB.out⟩
   case measure => simp [intOf]
  ·obtain rfl : u6 = .int .i64 6 := hi
   obtain rfl := hv
   go_wp2_with fail
   go_ret
   exact ⟨rfl, HB.out⟩
set_option maxRecDepth 100000 in
set_option maxHeartbeats 2000000 in
theorem vr_held1 (p : Nat → Int) (w : World) (hp : FitP p) : Calls Tryz.prog 60 #[.agg (posA p), .int .u8 1] w (IntL (heZ p 1 5) w) := by
 have HP := Lib.hid hp
 clear hp
 have HB := Lib.hid (Below.refl w.heap.size w)
 go_enter Tryz.func60, Tryz.ntmps60
 go_wp2_with (first
   | (guard_target = Go.wpList _ _ _ ((⟨some 2, .box _ _, _, _, _, _⟩ : Go.Oper) :: _) _ _; refine step_box rfl _ rfl p rfl ?_; intro b2 w1 N R; have HG2 := Lib.hid (show w.heap.size ≤ b2 by have := HB.out.size; have := N.at_; omega); have HB := Lib.hid (below_on HB.out N.below); have HR2 := Lib.hid R; clear N R))
 go_loopw [5, 6] (fun v i wr => ∃ k : Nat, k ≤ 5 ∧ i = .int .i64 ((k : Int) + 1) ∧ v = .int .i64 (heZ p 1 k) ∧ Row wr b2 p ∧ Below w.heap.size w wr) (fun _ i _ => 6 - (intOf i).toNat)
 case atStart => exact ⟨0, by omega, rfl, rfl, HR2.out, HB.out⟩
 case round =>
  clear HR2 HB
  obtain ⟨k, hk, hi, hv, hr, hb⟩ := hrel
  have HR2 := Lib.hid hr
  have HB := Lib.hid hb
  clear hr hb
  rcases (by omega : k = 0 ∨ k = 1 ∨ k = 2 ∨ k = 3 ∨ k = 4 ∨ k = 5) with rfl | rfl | rfl | rfl | rfl | rfl
  ·obtain rfl : u6 = .int .i64 1 := hi
   have hz := heZ_rng HP.out (c := 1) (by decide) 0 (by decide)
   have hx := HP.out.pock 73 (by decide) (by decide)
   obtain ⟨z, hz2⟩ : ∃ z, heZ p 1 0 = z := ⟨_, rfl⟩
   have HN := Lib.hid (show heZ p 1 (0 + 1) = z + p 73 by rw [← hz2]; rfl)
   rw [hz2] at hz hv
   obtain rfl : u5 = .int .i64 z := hv
   have hz3 : z ≤ 2000 := by omega
   have hz4 := hz.1
   obtain ⟨hx0, hx1⟩ := hx
   clear hz2 hz
   go_wp2_with (guard_target = Go.wpList _ _ _ ((⟨some _, .load _ (.tmp 20), _, _, _, _⟩ : Go.Oper) :: _) _ _; refine step_get rfl 5 _ rfl b2 73 rfl Tryz.underlying5 rfl (.int .u8 (p 73)) ?_ ?_; exact HR2.out.cell 73 (by decide))
   go_roundw
   case rel => exact ⟨0 + 1, by decide, by first | rfl | go_num, by rw [HN.out], HR2.out, HB.out⟩
   case measure => simp [intOf]
  ·obtain rfl : u6 = .int .i64 2 := hi
   have hz := heZ_rng HP.out (c := 1) (by decide) 1 (by decide)
   have hx := HP.out.pock 74 (by decide) (by decide)
   obtain ⟨z, hz2⟩ : ∃ z, heZ p 1 1 = z := ⟨_, rfl⟩
   have HN := Lib.hid (show heZ p 1 (1 + 1) = z + p 74 by rw [← hz2]; rfl)
   rw [hz2] at hz hv
   obtain rfl : u5 = .int .i64 z := hv
   have hz3 : z ≤ 2000 := by omega
   have hz4 := hz.1
   obtain ⟨hx0, hx1⟩ := hx
   clear hz2 hz
   go_wp2_with (guard_target = Go.wpList _ _ _ ((⟨some _, .load _ (.tmp 20), _, _, _, _⟩ : Go.Oper) :: _) _ _; refine step_get rfl 5 _ rfl b2 74 rfl Tryz.underlying5 rfl (.int .u8 (p 74)) ?_ ?_; exact HR2.out.cell 74 (by decide))
   go_roundw
   case rel => exact ⟨1 + 1, by decide, by first | rfl | go_num, by rw [HN.out], HR2.out, HB.out⟩
   case measure => simp [intOf]
  ·obtain rfl : u6 = .int .i64 3 := hi
   have hz := heZ_rng HP.out (c := 1) (by decide) 2 (by decide)
   have hx := HP.out.pock 75 (by decide) (by decide)
   obtain ⟨z, hz2⟩ : ∃ z, heZ p 1 2 = z := ⟨_, rfl⟩
   have HN := Lib.hid (show heZ p 1 (2 + 1) = z + p 75 by rw [← hz2]; rfl)
   rw [hz2] at hz hv
   obtain rfl : u5 = .int .i64 z := hv
   have hz3 : z ≤ 2000 := by omega
   have hz4 := hz.1
   obtain ⟨hx0, hx1⟩ := hx
   clear hz2 hz
   go_wp2_with (guard_target = Go.wpList _ _ _ ((⟨some _, .load _ (.tmp 20), _, _, _, _⟩ : Go.Oper) :: _) _ _; refine step_get rfl 5 _ rfl b2 75 rfl Tryz.underlying5 rfl (.int .u8 (p 75)) ?_ ?_; exact HR2.out.cell 75 (by decide))
   go_roundw
   case rel => exact ⟨2 + 1, by decide, by first | rfl | go_num, by rw [HN.out], HR2.out, HB.out⟩
   case measure => simp [intOf]
  ·obtain rfl : u6 = .int .i64 4 := hi
   have hz := heZ_rng HP.out (c := 1) (by decide) 3 (by decide)
   have hx := HP.out.pock 76 (by decide) (by decide)
   obtain ⟨z, hz2⟩ : ∃ z, heZ p 1 3 = z := ⟨_, rfl⟩
   have HN := Lib.hid (show heZ p 1 (3 + 1) = z + p 76 by rw [← hz2]; rfl)
   rw [hz2] at hz hv
   obtain rfl : u5 = .int .i64 z := hv
   have hz3 : z ≤ 2000 := by omega
   have hz4 := hz.1
   obtain ⟨hx0, hx1⟩ := hx
   clear hz2 hz
   go_wp2_with (guard_target = Go.wpList _ _ _ ((⟨some _, .load _ (.tmp 20), _, _, _, _⟩ : Go.Oper) :: _) _ _; refine step_get rfl 5 _ rfl b2 76 rfl Tryz.underlying5 rfl (.int .u8 (p 76)) ?_ ?_; exact HR2.out.cell 76 (by decide))
   go_roundw
   case rel => exact ⟨3 + 1, by decide, by first | rfl | go_num, by rw [HN.out], HR2.out, HB.out⟩
   case measure => simp [intOf]
  ·obtain rfl : u6 = .int .i64 5 := hi
   have hz := heZ_rng HP.out (c := 1) (by decide) 4 (by decide)
   have hx := HP.out.pock 77 (by decide) (by decide)
   obtain ⟨z, hz2⟩ : ∃ z, heZ p 1 4 = z := ⟨_, rfl⟩
   have HN := Lib.hid (show heZ p 1 (4 + 1) = z + p 77 by rw [← hz2]; rfl)
   rw [hz2] at hz hv
   obtain rfl : u5 = .int .i64 z := hv
   have hz3 : z ≤ 2000 := by omega
   have hz4 := hz.1
   obtain ⟨hx0, hx1⟩ := hx
   clear hz2 hz
   go_wp2_with (guard_target = Go.wpList _ _ _ ((⟨some _, .load _ (.tmp 20), _, _, _, _⟩ : Go.Oper) :: _) _ _; refine step_get rfl 5 _ rfl b2 77 rfl Tryz.underlying5 rfl (.int .u8 (p 77)) ?_ ?_; exact HR2.out.cell 77 (by decide))
   go_roundw
   case rel => exact ⟨4 + 1, by decide, by first | rfl | go_num, by rw [HN.out], HR2.out, HB.out⟩
   case measure => simp [intOf]
  ·obtain rfl : u6 = .int .i64 6 := hi
   obtain rfl := hv
   go_wp2_with fail
   go_ret
   exact ⟨rfl, HB.out⟩
theorem run_posV {o : Oper} {a : Act} {w : World} (x : Operand) (ho : o.op = .load 31 x) (b : Nat) (hx : a.eval x = .pointer (some ⟨b, 0, none⟩)) (p : Nat → Int) (hr : Row w b p) : (execOp a.eval o).run Tryz.prog w = .ok (.value (.agg (posA p))) w := run_load x ho b hx p hr
theorem hdK0 {p : Nat → Int} {z : Int} (h : heZ p 0 5 = z) (w : World) (hp : FitP p) : Calls Tryz.prog 60 #[.agg (posA p), .int .u8 0] w (IntL z w) := h ▸ vr_held0 p w hp
theorem hdK1 {p : Nat → Int} {z : Int} (h : heZ p 1 5 = z) (w : World) (hp : FitP p) : Calls Tryz.prog 60 #[.agg (posA p), .int .u8 1] w (IntL z w) := h ▸ vr_held1 p w hp
set_option maxRecDepth 100000 in
set_option maxHeartbeats 4000000 in
theorem vr_men (p : Nat → Int) (w : World) (hp : FitP p) : Calls Tryz.prog 31 #[.agg (posA p)] w (IntL (mnR p) w) := by
 have HP := Lib.hid hp
 obtain ⟨z0, h0⟩ : ∃ z, heZ p 0 5 = z := ⟨_, rfl⟩
 obtain ⟨z1, h1⟩ : ∃ z, heZ p 1 5 = z := ⟨_, rfl⟩
 have r0 := heZ_rng hp (c := 0) (by decide) 5 (by decide)
 have r1 := heZ_rng hp (c := 1) (by decide) 5 (by decide)
 have HM := Lib.hid (show mnR p = z0 + z1 + (ocR p 64 : Nat) by unfold mnR; rw [h0, h1])
 rw [h0] at r0
 rw [h1] at r1
 have HH0 := Lib.hid h0
 have HH1 := Lib.hid h1
 obtain ⟨a0, b0⟩ : 0 ≤ z0 ∧ z0 ≤ 2000 := by omega
 obtain ⟨a1, b1'⟩ : 0 ≤ z1 ∧ z1 ≤ 2000 := by omega
 clear hp h0 h1 r0 r1
 have HB := Lib.hid (Below.refl w.heap.size w)
 go_enter Tryz.func31, Tryz.ntmps31
 go_wp2_with (first
   | (guard_target = Go.wpList _ _ _ ((⟨some 1, .box _ _, _, _, _, _⟩ : Go.Oper) :: _) _ _; refine step_box rfl _ rfl p rfl ?_; intro b1 w1 N R; have HG1 := Lib.hid (show w.heap.size ≤ b1 by have := HB.out.size; have := N.at_; omega); have HB := Lib.hid (below_on HB.out N.below); have HR1 := Lib.hid R; clear N R))
 refine late_begin 6 (by kernel_rfl) ?_
 refine ltk 0 (by kernel_rfl) (fun _ _ d _ _ h => by cases d <;> exact h) (fun o ho => ?_)
 simp only [qa, qb, qc, qd] at ho; subst ho
 refine ⟨.agg (posA p), Or.inl ⟨by kernel_rfl, fun w' hl => Or.inl (run_posV _ rfl b1 rfl p (HR1.out.later hl))⟩, ?_⟩
 simp only [Act.put, pa, pb, pc]
 refine ltk 2 (by kernel_rfl) (fun _ _ d _ _ h => by cases d <;> exact h) (fun o ho => ?_)
 simp only [qa, qb, qc, qd] at ho; subst ho
 refine ⟨.agg (posA p), Or.inl ⟨by kernel_rfl, fun w' hl => Or.inl (run_posV _ rfl b1 rfl p (HR1.out.later hl))⟩, ?_⟩
 simp only [Act.put, pa, pb, pc]
 refine late_one 1 (by kernel_rfl) (by kernel_rfl) (fun o ho => ?_)
 simp only [qa, qb, qc, qd] at ho; subst ho
 refine ⟨by kernel_rfl, fun wn hl K hK => ?_⟩
 have HR1 := Lib.hid (HR1.out.later hl); have HB := Lib.hid (below_on HB.out hl); clear hl
 refine wp_enter _ _ (by go_simp; exact ⟨rfl, rfl⟩) ?_
 refine (hdK0 HH0.out _ HP.out).mono ?_; rintro e wm ⟨rfl, hb⟩; refine ⟨_, rfl, ?_⟩
 refine hK.out _ _ hb ?_
 have HR1 := Lib.hid (HR1.out.later hb); have HB := Lib.hid (below_on HB.out hb); clear hb
 clear hK K
 simp only [Act.put, pa, pb, pc]
 refine late_one 3 (by kernel_rfl) (by kernel_rfl) (fun o ho => ?_)
 simp only [qa, qb, qc, qd] at ho; subst ho
 refine ⟨by kernel_rfl, fun wn hl K hK => ?_⟩
 have HR1 := Lib.hid (HR1.out.later hl); have HB := Lib.hid (below_on HB.out hl); clear hl
 refine wp_enter _ _ (by go_simp; exact ⟨rfl, rfl⟩) ?_
 refine (hdK1 HH1.out _ HP.out).mono ?_; rintro e wm ⟨rfl, hb⟩; refine ⟨_, rfl, ?_⟩
 refine hK.out _ _ hb ?_
 have HR1 := Lib.hid (HR1.out.later hb); have HB := Lib.hid (below_on HB.out hb); clear hb
 clear hK K
 simp only [Act.put, pa, pb, pc]
 refine ltk 4 (by kernel_rfl) (fun _ _ d _ _ h => by cases d <;> exact h) (fun o ho => ?_)
 simp only [qa, qb, qc, qd] at ho; subst ho
 apply Exists.intro
 refine ⟨Or.inl ⟨by kernel_rfl, fun w' hl => Or.inl ?_⟩, ?_⟩
 ·(go_simp; try with_reducible rfl)
 simp only [Act.put, pa, pb, pc]
 refine ltk 5 (by kernel_rfl) (fun _ _ d _ _ h => by cases d <;> exact h) (fun o ho => ?_)
 simp only [qa, qb, qc, qd] at ho; subst ho
 apply Exists.intro
 refine ⟨Or.inl ⟨by kernel_rfl, fun w' hl => Or.inl ?_⟩, ?_⟩
 ·(go_simp; try with_reducible rfl)
 simp only [Act.put, pa, pb, pc]
 refine late_end (by kernel_rfl) (fun wn hl => ?_)
 have HR1 := Lib.hid (HR1.out.later hl); have HB := Lib.hid (below_on HB.out hl); clear hl
 go_wp2_with fail
 rw [show IntKind.i64.wrap (z0 + z1) = z0 + z1 by rw [IntKind.wrap_i64]; omega]
 go_loopw [3, 4] (fun v i wr => ∃ k : Nat, k ≤ 64 ∧ i = .int .i64 (k : Int) ∧ v = .int .i64 (z0 + z1 + (ocR p k : Nat)) ∧ Row wr b1 p ∧ Below w.heap.size w wr) (fun _ i _ => 64 - (intOf i).toNat)
 case atStart => exact ⟨0, by omega, rfl, (show Value.int .i64 (z0 + z1) = Value.int .i64 (z0 + z1 + ((0 : Nat) : Int)) by congr 1; omega), HR1.out, HB.out⟩
 case round =>
  clear HR1 HB
  obtain ⟨k, hk, rfl, hv, hr, hb⟩ := hrel
  have HR1 := Lib.hid hr
  have HB := Lib.hid hb
  clear hr hb
  by_cases hlt : k < 64
  ·have HLt := Lib.hid hlt
   have ga : decide (k < 64) = true := decide_eq_true hlt
   have ga2 : decide ((k : Int) < 64) = true := decide_eq_true (by omega)
   have HC := Lib.hid (ocR_succ p k)
   obtain ⟨m, hm⟩ : ∃ m, z0 + z1 + (ocR p k : Nat) = m := ⟨_, rfl⟩
   have hml : 0 ≤ m ∧ m ≤ 5000 := by have := ocR_le p k; omega
   obtain ⟨m0, m1⟩ := hml
   rw [hm] at hv
   obtain rfl : u3 = .int .i64 m := hv
   have HM2 := Lib.hid hm
   clear hm
   obtain ⟨kd, hkd⟩ : ∃ kd, kndZ (p (1 + k)) = kd := ⟨_, rfl⟩
   have HKd := Lib.hid hkd
   clear hkd
   cases gk : kd == 0
   ·have gk2 : (kd != 0) = true := by rw [bne, gk]; rfl
    have HN := Lib.hid (show z0 + z1 + (ocR p (k + 1) : Nat) = m + 1 by have h1 := HM2.out; have h2 := HC.out; rw [HKd.out, gk, cond_false] at h2; omega)
    clear gk
    go_wp2_with (first
     | (guard_target = Go.wpList _ _ _ ((⟨some _, .load _ (.tmp 16), _, _, _, _⟩ : Go.Oper) :: _) _ _; refine step_get rfl 5 _ rfl b1 (1 + k) rfl Tryz.underlying5 rfl (.int .u8 (p (1 + k))) ?_ ?_; exact (HR1.out.cell (1 + k) (by have := HLt.out; omega)).trans (by rw [kAt_board (Nat.zero_le _) HLt.out]))
     | (go_at_call 29; refine (rkind_any _ _ (HP.out.bd k HLt.out).1 (HP.out.bd k HLt.out).2).mono ?_; rintro e w3 ⟨rfl, rfl⟩; rw [HKd.out]))
    go_roundw
    case rel => exact ⟨k + 1, by have := HLt.out; omega, by go_num, by rw [HN.out], HR1.out, HB.out⟩
    case measure => simp [intOf]; have := HLt.out; omega
   ·have gk2 : (kd != 0) = false := by rw [bne, gk]; rfl
    have HN := Lib.hid (show z0 + z1 + (ocR p (k + 1) : Nat) = m by have h1 := HM2.out; have h2 := HC.out; rw [HKd.out, gk, cond_true] at h2; omega)
    clear gk
    go_wp2_with (first
     | (guard_target = Go.wpList _ _ _ ((⟨some _, .load _ (.tmp 16), _, _, _, _⟩ : Go.Oper) :: _) _ _; refine step_get rfl 5 _ rfl b1 (1 + k) rfl Tryz.underlying5 rfl (.int .u8 (p (1 + k))) ?_ ?_; exact (HR1.out.cell (1 + k) (by have := HLt.out; omega)).trans (by rw [kAt_board (Nat.zero_le _) HLt.out]))
     | (go_at_call 29; refine (rkind_any _ _ (HP.out.bd k HLt.out).1 (HP.out.bd k HLt.out).2).mono ?_; rintro e w3 ⟨rfl, rfl⟩; rw [HKd.out]))
    go_roundw
    case rel => exact ⟨k + 1, by have := HLt.out; omega, by go_num, by rw [HN.out], HR1.out, HB.out⟩
    case measure => simp [intOf]; have := HLt.out; omega
  ·obtain rfl : k = 64 := by omega
   rw [← HM.out] at hv
   obtain rfl : u3 = .int .i64 (mnR p) := hv
   go_wp2_with fail
   go_ret
   exact ⟨rfl, HB.out⟩
end Go.Proofs.YtigkbccpkepdmaaGreatDoor
