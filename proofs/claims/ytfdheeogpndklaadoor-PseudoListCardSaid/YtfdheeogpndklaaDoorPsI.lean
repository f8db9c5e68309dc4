/-
  Layer 13's awake.
-/
import Derived.Test.YtfdheeogpndklaaDoorPsH
import Derived.Test.YtfdheeogpndklaaDoorVaBaseF
namespace Go.Proofs.YtfdheeogpndklaaDoor
open Go.RowKit Go.Shelf
set_option linter.unusedVariables false
set_option linter.unusedSimpArgs false

theorem psr_fit : PsR psr := ⟨by intro i hi; unfold psr upd zeroP; by_cases h1 : 1 + i = 1 + 35 <;> by_cases h2 : 1 + i = 1 + 36 <;> simp [h1, h2] <;> omega, by decide, by decide, by decide⟩
theorem psq_fit : PsR psq := ⟨by intro i hi; unfold psq upd zeroP; by_cases h1 : 1 + i = 1 + 57 <;> by_cases h2 : 1 + i = 1 + 48 <;> simp [h1, h2] <;> omega, by decide, by decide, by decide⟩
theorem psp_fit : PsR (startP 0) := PsR.of (wf_start 0)
theorem run_mvAt {o : Oper} {a : Act} {w : World} (x : Operand) (ho : o.op = .load 36 x) (g i off : Nat) (hx : a.eval x = .pointer (some ⟨g, off, none⟩)) (hi : off = 5 * i) (m : Pm) (hr : w.rangeAt g (5 * i) (pmA m).toList) : (execOp a.eval o).run Tryd.prog w = .ok (.value (.agg (mvA (pmM m)))) w := by
  subst hi
  have hl := run_loadVar_mid (P := Tryd.prog) w g (5 * i) 36 (pmA m).toList _ hr Tryd.underlying36 rfl sizePm
  unfold execOp
  simp only [ho, hx, Instr.loadAt, Instr.sureAddr, Sem.run_bind, Sem.run_pure, Result.andThen_ok, hl]
  rfl
theorem Pms.get {L : List Pm} {g : Nat} {w : World} (h : Pms L (some ⟨g, 0, none⟩) w) {i : Nat} {m : Pm} (hm : L[i]? = some m) : w.rangeAt g (5 * i) (pmA m).toList := by
  obtain ⟨g', e, hr⟩ := h.at hm
  have : g = g' := by injection e with e; injection e
  subst this; exact hr
theorem takK {p : Nat → Int} {m : Mv} {n : Int} (h : takZ p m = n) (w : World) (hp : PsR p) (hm : FitV m) (hT : PsT w) : Calls Tryd.prog 20 #[.agg (posA p), .agg (mvA m)] w (IntL n w) := h ▸ taken_ps p m w hp hm hT
theorem takesK {p : Nat → Int} {m : Mv} {b : Bool} (h : (takZ p m != -1) = b) (w : World) (hp : PsR p) (hm : FitV m) (hT : PsT w) : Calls Tryd.prog 21 #[.agg (posA p), .agg (mvA m)] w (BoL b w) := h ▸ takes_ps p m w hp hm hT
theorem trip_len {l : List Pm} {n : Nat} (h : (trip l).length = n) : l.length = n := by unfold trip at h; rwa [List.length_map] at h
theorem fit_lit (f t : Int) (k : Int) (h : (decide (-128 ≤ f) && (decide (f ≤ 127) && (decide (-128 ≤ t) && (decide (t ≤ 127) && (decide (0 ≤ k) && decide (k ≤ 255)))))) = true) : FitV ⟨f, t, k, 0, false⟩ := by
  simp only [Bool.and_eq_true, decide_eq_true_eq] at h
  exact ⟨⟨h.1, h.2.1⟩, ⟨h.2.2.1, h.2.2.2.1⟩, ⟨h.2.2.2.2.1, h.2.2.2.2.2⟩, ⟨Int.le_refl _, by show (0 : Int) ≤ 255; decide⟩⟩
theorem Pms.lt {L : List Pm} {g : Nat} {w : World} (h : Pms L (some ⟨g, 0, none⟩) w) {m : Pm} {i : Nat} (hm : L[i]? = some m) : g < w.heap.size := by
  obtain ⟨g', cur, e, hb, _⟩ := h i m hm
  have : g = g' := by injection e with e; injection e
  subst this; exact Blk.lt hb
theorem Pms.upd {L : List Pm} {g b : Nat} {w w' : World} (h : Pms L (some ⟨g, 0, none⟩) w) (U : Upd b w w') (hn : g ≠ b) : Pms L (some ⟨g, 0, none⟩) w' := fun i m hm => by
  obtain ⟨g', cur, e, hb, hc⟩ := h i m hm
  have : g = g' := by injection e with e; injection e
  subst this
  exact ⟨g, cur, rfl, Blk.apart hb U hn, hc⟩
set_option maxRecDepth 100000 in
set_option maxHeartbeats 8000000 in
theorem ps_awake (w : World) (hT : PsT w) (hK : TabKn w) : Calls Tryd.prog 10 #[] w (BoL true w) := by
  have HT := Lib.hid hT
  have HK := Lib.hid hK
  clear hT hK
  have HB := Lib.hid (Below.refl w.heap.size w)
  obtain ⟨P0, HP0⟩ : ∃ P0, Hid (startP 0 = P0) := ⟨_, Lib.hid rfl⟩
  obtain ⟨P1, HP1⟩ : ∃ P1, Hid (psq = P1) := ⟨_, Lib.hid rfl⟩
  obtain ⟨P2, HP2⟩ : ∃ P2, Hid (psr = P2) := ⟨_, Lib.hid rfl⟩
  have HF0 := Lib.hid (show PsR P0 by rw [← HP0.out]; exact psp_fit)
  have HF1 := Lib.hid (show PsR P1 by rw [← HP1.out]; exact psq_fit)
  have HF2 := Lib.hid (show PsR P2 by rw [← HP2.out]; exact psr_fit)
  have HK1 := Lib.hid (show takZ P2 ⟨36, 43, 0, 0, false⟩ = 35 by rw [← HP2.out]; exact aw_t1)
  have HK2 := Lib.hid (show (takZ P2 ⟨36, 44, 0, 0, false⟩ != -1) = false by rw [← HP2.out, aw_t2]; rfl)
  obtain ⟨L0, HL0⟩ : ∃ L, Hid (allL P0 = L) := ⟨_, Lib.hid rfl⟩
  have HN0 := Lib.hid (show L0.length = 20 by rw [← HL0.out, ← HP0.out]; exact trip_len (by rw [aw_p]; rfl))
  have HA00 := Lib.hid (show L0[0]? = some ⟨1, 16, 0⟩ by rw [← HL0.out, ← HP0.out]; exact trip_at (by rw [aw_p]; rfl))
  have HA05 := Lib.hid (show L0[5]? = some ⟨8, 24, 0⟩ by rw [← HL0.out, ← HP0.out]; exact trip_at (by rw [aw_p]; rfl))
  obtain ⟨L1, HL1⟩ : ∃ L, Hid (allL P1 = L) := ⟨_, Lib.hid rfl⟩
  have HN1 := Lib.hid (show L1.length = 8 by rw [← HL1.out, ← HP1.out]; exact trip_len (by rw [aw_q]; rfl))
  have HA10 := Lib.hid (show L1[0]? = some ⟨48, 56, 2⟩ by rw [← HL1.out, ← HP1.out]; exact trip_at (by rw [aw_q]; rfl))
  have HA17 := Lib.hid (show L1[7]? = some ⟨48, 57, 5⟩ by rw [← HL1.out, ← HP1.out]; exact trip_at (by rw [aw_q]; rfl))
  obtain ⟨L2, HL2⟩ : ∃ L, Hid (allL P2 = L) := ⟨_, Lib.hid rfl⟩
  have HN2 := Lib.hid (show L2.length = 2 by rw [← HL2.out, ← HP2.out]; exact trip_len (by rw [aw_r]; rfl))
  have HA20 := Lib.hid (show L2[0]? = some ⟨36, 43, 0⟩ by rw [← HL2.out, ← HP2.out]; exact trip_at (by rw [aw_r]; rfl))
  have HA21 := Lib.hid (show L2[1]? = some ⟨36, 44, 0⟩ by rw [← HL2.out, ← HP2.out]; exact trip_at (by rw [aw_r]; rfl))
  go_enter Tryd.func10, Tryd.ntmps10
  simp only [List.append]
  generalize hREST : Go.Code.seq (Go.Code.region 11 _ true) _ = REST
  have HREST := Lib.hid hREST
  clear hREST
  go_wp2_with (first
      | (go_at_call 19; refine (start_any 0 _ (by decide) (HT.out.on HB.out).var (HK.out.on HB.out)).mono ?_; rintro e w3 ⟨rfl, hb⟩; rw [HP0.out]; have HB := Lib.hid (below_on HB.out hb); clear hb)
      | (guard_target = Go.wpList _ _ _ ((⟨some 1, .alloc _, _, _, _, _⟩ : Go.Oper) :: _) _ _; refine step_alloc (op := ⟨some 1, _, _, _, _, _⟩) rfl rfl ?_; intro b1 wn N R; have HG1 := Lib.hid (show w.heap.size ≤ b1 by have := HB.out.size; have := N.at_; omega); have HR1 := Lib.hid R; have HB := Lib.hid (below_on HB.out N.below); clear N R)
      | (guard_target = Go.wpList _ _ _ ((⟨none, .store _ (.tmp 1) _, _, _, _, _⟩ : Go.Oper) :: _) _ _; refine step_store (op := ⟨none, .store _ (.tmp 1) _, _, _, _, _⟩) rfl _ _ rfl b1 rfl zeroP P0 rfl HR1.out ?_; intro wn U R; have HR1 := Lib.hid R; have HB := Lib.hid (HB.out.trans (U.below HG1.out)); clear U R)
      | (guard_target = Go.wpList _ _ _ ((⟨some _, .load _ (.tmp 1), _, _, _, _⟩ : Go.Oper) :: _) _ _; refine step_load (op := ⟨some 12, .load _ (.tmp 1), _, _, _, _⟩) rfl _ rfl b1 rfl P0 HR1.out ?_)
      | (go_at_call 7; guard_target = Go.Calls _ _ #[Go.Value.agg (posA P0)] _ _; refine (list_ps P0 _ HF0.out (HT.out.on HB.out)).mono ?_; rintro e w5 ⟨v, rfl, hv, hb⟩; rw [HL0.out] at hv; obtain ⟨a0, c0, rfl, hE⟩ := pms_of hv; rw [HN0.out]; obtain ⟨g0, rfl, _⟩ := hE.at HA00.out; have HE0n := Lib.hid hE; have HB := Lib.hid (below_on HB.out hb); have HE0 := HE0n; clear hE hb hv HE0n)
      | (guard_target = Go.wpList _ _ _ ((⟨some 14, .build _ _, _, _, _, _⟩ : Go.Oper) :: _) _ _; refine step_build (op := ⟨some 14, .build _ _, _, _, _, _⟩) rfl 31 _ rfl (posA (upd (upd zeroP 83 (-1)) 87 1)) (by kernel_rfl) ?_)
      | (guard_target = Go.wpList _ _ _ ((⟨some 4, .alloc _, _, _, _, _⟩ : Go.Oper) :: _) _ _; refine step_alloc (op := ⟨some 4, _, _, _, _, _⟩) rfl rfl ?_; intro b4 wn N R; have HG4 := Lib.hid (show w.heap.size ≤ b4 by have := HB.out.size; have := N.at_; omega); have HY04 := Lib.hid (show g0 ≠ b4 from Nat.ne_of_lt (by have h1 := Pms.lt HE0.out HA00.out; have := N.at_; omega)); have HE0 := Lib.hid (HE0.out.later N.below); have HR4 := Lib.hid R; have HB := Lib.hid (below_on HB.out N.below); clear N R)
      | (guard_target = Go.wpList _ _ _ ((⟨none, .store _ (.tmp 4) _, _, _, _, _⟩ : Go.Oper) :: _) _ _; refine step_store (op := ⟨none, .store _ (.tmp 4) _, _, _, _, _⟩) rfl _ _ rfl b4 rfl zeroP (upd (upd zeroP 83 (-1)) 87 1) rfl HR4.out ?_; intro wn U R; have HE0 := Lib.hid (Pms.upd HE0.out U HY04.out); have HR4 := Lib.hid R; have HB := Lib.hid (HB.out.trans (U.below HG4.out)); clear U R)
      | (guard_target = Go.wpList _ _ _ ((⟨none, .store _ (.tmp 16) _, _, _, _, _⟩ : Go.Oper) :: _) _ _; refine step_cell (op := ⟨none, .store _ (.tmp 16) _, _, _, _, _⟩) rfl 5 _ _ rfl b4 (1 + 48) rfl .u8 1 rfl _ HR4.out (by decide) rfl size5 ?_; intro wn U R; have HE0 := Lib.hid (Pms.upd HE0.out U HY04.out); have HR4 := Lib.hid R; have HB := Lib.hid (HB.out.trans (U.below HG4.out)); clear U R)
      | (guard_target = Go.wpList _ _ _ ((⟨none, .store _ (.tmp 18) _, _, _, _, _⟩ : Go.Oper) :: _) _ _; refine step_cell (op := ⟨none, .store _ (.tmp 18) _, _, _, _, _⟩) rfl 5 _ _ rfl b4 (1 + 57) rfl .u8 10 rfl _ HR4.out (by decide) rfl size5 ?_; intro wn U R; have HE0 := Lib.hid (Pms.upd HE0.out U HY04.out); have HR4 := Lib.hid R; have HB := Lib.hid (HB.out.trans (U.below HG4.out)); have HR4 := Lib.hid (show Row _ b4 P1 by rw [← HP1.out]; exact HR4.out); clear U R)
      | (guard_target = Go.wpList _ _ _ ((⟨some _, .load _ (.tmp 4), _, _, _, _⟩ : Go.Oper) :: _) _ _; refine step_load (op := ⟨some 19, .load _ (.tmp 4), _, _, _, _⟩) rfl _ rfl b4 rfl P1 HR4.out ?_)
      | (go_at_call 7; guard_target = Go.Calls _ _ #[Go.Value.agg (posA P1)] _ _; refine (list_ps P1 _ HF1.out (HT.out.on HB.out)).mono ?_; rintro e w5 ⟨v, rfl, hv, hb⟩; rw [HL1.out] at hv; obtain ⟨a1, c1, rfl, hE⟩ := pms_of hv; rw [HN1.out]; obtain ⟨g1, rfl, _⟩ := hE.at HA10.out; have HE1n := Lib.hid hE; have HE0 := Lib.hid (HE0.out.later hb); have HB := Lib.hid (below_on HB.out hb); have HE1 := HE1n; clear hE hb hv HE1n)
      | (guard_target = Go.wpList _ _ _ ((⟨some 21, .build _ _, _, _, _, _⟩ : Go.Oper) :: _) _ _; refine step_build (op := ⟨some 21, .build _ _, _, _, _, _⟩) rfl 31 _ rfl (posA (upd (upd zeroP 83 43) 87 1)) (by kernel_rfl) ?_)
      | (guard_target = Go.wpList _ _ _ ((⟨some 6, .alloc _, _, _, _, _⟩ : Go.Oper) :: _) _ _; refine step_alloc (op := ⟨some 6, _, _, _, _, _⟩) rfl rfl ?_; intro b6 wn N R; have HG6 := Lib.hid (show w.heap.size ≤ b6 by have := HB.out.size; have := N.at_; omega); have HY06 := Lib.hid (show g0 ≠ b6 from Nat.ne_of_lt (by have h1 := Pms.lt HE0.out HA00.out; have := N.at_; omega)); have HY16 := Lib.hid (show g1 ≠ b6 from Nat.ne_of_lt (by have h1 := Pms.lt HE1.out HA10.out; have := N.at_; omega)); have HE0 := Lib.hid (HE0.out.later N.below); have HE1 := Lib.hid (HE1.out.later N.below); have HR6 := Lib.hid R; have HB := Lib.hid (below_on HB.out N.below); clear N R)
      | (guard_target = Go.wpList _ _ _ ((⟨none, .store _ (.tmp 6) _, _, _, _, _⟩ : Go.Oper) :: _) _ _; refine step_store (op := ⟨none, .store _ (.tmp 6) _, _, _, _, _⟩) rfl _ _ rfl b6 rfl zeroP (upd (upd zeroP 83 43) 87 1) rfl HR6.out ?_; intro wn U R; have HE0 := Lib.hid (Pms.upd HE0.out U HY06.out); have HE1 := Lib.hid (Pms.upd HE1.out U HY16.out); have HR6 := Lib.hid R; have HB := Lib.hid (HB.out.trans (U.below HG6.out)); clear U R)
      | (guard_target = Go.wpList _ _ _ ((⟨none, .store _ (.tmp 23) _, _, _, _, _⟩ : Go.Oper) :: _) _ _; refine step_cell (op := ⟨none, .store _ (.tmp 23) _, _, _, _, _⟩) rfl 5 _ _ rfl b6 (1 + 36) rfl .u8 1 rfl _ HR6.out (by decide) rfl size5 ?_; intro wn U R; have HE0 := Lib.hid (Pms.upd HE0.out U HY06.out); have HE1 := Lib.hid (Pms.upd HE1.out U HY16.out); have HR6 := Lib.hid R; have HB := Lib.hid (HB.out.trans (U.below HG6.out)); clear U R)
      | (guard_target = Go.wpList _ _ _ ((⟨none, .store _ (.tmp 25) _, _, _, _, _⟩ : Go.Oper) :: _) _ _; refine step_cell (op := ⟨none, .store _ (.tmp 25) _, _, _, _, _⟩) rfl 5 _ _ rfl b6 (1 + 35) rfl .u8 9 rfl _ HR6.out (by decide) rfl size5 ?_; intro wn U R; have HE0 := Lib.hid (Pms.upd HE0.out U HY06.out); have HE1 := Lib.hid (Pms.upd HE1.out U HY16.out); have HR6 := Lib.hid R; have HB := Lib.hid (HB.out.trans (U.below HG6.out)); have HR6 := Lib.hid (show Row _ b6 P2 by rw [← HP2.out]; exact HR6.out); clear U R)
      | (guard_target = Go.wpList _ _ _ ((⟨some _, .load _ (.tmp 6), _, _, _, _⟩ : Go.Oper) :: _) _ _; refine step_load (op := ⟨some 26, .load _ (.tmp 6), _, _, _, _⟩) rfl _ rfl b6 rfl P2 HR6.out ?_)
      | (go_at_call 7; guard_target = Go.Calls _ _ #[Go.Value.agg (posA P2)] _ _; refine (list_ps P2 _ HF2.out (HT.out.on HB.out)).mono ?_; rintro e w5 ⟨v, rfl, hv, hb⟩; rw [HL2.out] at hv; obtain ⟨a2, c2, rfl, hE⟩ := pms_of hv; rw [HN2.out]; obtain ⟨g2, rfl, _⟩ := hE.at HA20.out; have HE2n := Lib.hid hE; have HE0 := Lib.hid (HE0.out.later hb); have HE1 := Lib.hid (HE1.out.later hb); have HR6 := Lib.hid (HR6.out.later hb); have HB := Lib.hid (below_on HB.out hb); have HE2 := HE2n; clear hE hb hv HE2n))
  rw [← HREST.out]
  clear HREST
  go_step
  refine late_begin 68 (by kernel_rfl) ?_
  refine ltk 0 (by kernel_rfl) (fun _ _ d _ _ h => by cases d <;> exact h) (fun o ho => ?_)
  simp only [qa, qb, qc, qd] at ho; subst ho
  apply Exists.intro
  refine ⟨Or.inl ⟨by kernel_rfl, fun w' hl => Or.inl ?_⟩, ?_⟩
  · (go_simp; try with_reducible rfl)
  simp only [Act.put, pa, pb, pc]
  refine ltk 1 (by kernel_rfl) (fun _ _ d _ _ h => by cases d <;> exact h) (fun o ho => ?_)
  simp only [qa, qb, qc, qd] at ho; subst ho
  apply Exists.intro
  refine ⟨Or.inl ⟨by kernel_rfl, fun w' hl => Or.inl ?_⟩, ?_⟩
  · (go_simp; try with_reducible rfl)
  simp only [Act.put, pa, pb, pc]
  refine ltk 2 (by kernel_rfl) (fun _ _ d _ _ h => by cases d <;> exact h) (fun o ho => ?_)
  simp only [qa, qb, qc, qd] at ho; subst ho
  apply Exists.intro
  refine ⟨Or.inl ⟨by kernel_rfl, fun w' hl => Or.inl ?_⟩, ?_⟩
  · (go_simp; try with_reducible rfl)
  simp only [Act.put, pa, pb, pc]
  refine ltk 3 (by kernel_rfl) (fun _ _ d _ _ h => by cases d <;> exact h) (fun o ho => ?_)
  simp only [qa, qb, qc, qd] at ho; subst ho
  apply Exists.intro
  refine ⟨Or.inl ⟨by kernel_rfl, fun w' hl => Or.inl ?_⟩, ?_⟩
  · (go_simp; try with_reducible rfl)
  simp only [Act.put, pa, pb, pc]
  refine ltk 4 (by kernel_rfl) (fun _ _ d _ _ h => by cases d <;> exact h) (fun o ho => ?_)
  simp only [qa, qb, qc, qd] at ho; subst ho
  apply Exists.intro
  refine ⟨Or.inl ⟨by kernel_rfl, fun w' hl => Or.inl ?_⟩, ?_⟩
  · (go_simp; try with_reducible rfl)
  simp only [Act.put, pa, pb, pc]
  refine ltk 5 (by kernel_rfl) (fun _ _ d _ _ h => by cases d <;> exact h) (fun o ho => ?_)
  simp only [qa, qb, qc, qd] at ho; subst ho
  apply Exists.intro
  refine ⟨Or.inl ⟨by kernel_rfl, fun w' hl => Or.inl ?_⟩, ?_⟩
  · (go_simp; try with_reducible rfl)
  simp only [Act.put, pa, pb, pc]
  refine ltk 6 (by kernel_rfl) (fun _ _ d _ _ h => by cases d <;> exact h) (fun o ho => ?_)
  simp only [qa, qb, qc, qd] at ho; subst ho
  apply Exists.intro
  refine ⟨Or.inl ⟨by kernel_rfl, fun w' hl => Or.inl ?_⟩, ?_⟩
  · (go_simp; try with_reducible rfl)
  simp only [Act.put, pa, pb, pc]
  refine ltk 7 (by kernel_rfl) (fun _ _ d _ _ h => by cases d <;> exact h) (fun o ho => ?_)
  simp only [qa, qb, qc, qd] at ho; subst ho
  apply Exists.intro
  refine ⟨Or.inl ⟨by kernel_rfl, fun w' hl => Or.inl ?_⟩, ?_⟩
  · (go_simp; try with_reducible rfl)
  simp only [Act.put, pa, pb, pc]
  refine ltk 8 (by kernel_rfl) (fun _ _ d _ _ h => by cases d <;> exact h) (fun o ho => ?_)
  simp only [qa, qb, qc, qd] at ho; subst ho
  apply Exists.intro
  refine ⟨Or.inl ⟨by kernel_rfl, fun w' hl => Or.inl ?_⟩, ?_⟩
  · (go_simp; try with_reducible rfl)
  simp only [Act.put, pa, pb, pc]
  refine ltk 9 (by kernel_rfl) (fun _ _ d _ _ h => by cases d <;> exact h) (fun o ho => ?_)
  simp only [qa, qb, qc, qd] at ho; subst ho
  refine ⟨.agg (mvA ⟨1, 16, 0, 0, false⟩), Or.inl ⟨by kernel_rfl, fun w' hl => Or.inl (run_mvAt _ rfl g0 0 0 rfl rfl ⟨1, 16, 0⟩ ((HE0.out.later hl).get HA00.out))⟩, ?_⟩
  simp only [Act.put, pa, pb, pc]
  refine ltk 10 (by kernel_rfl) (fun _ _ d _ _ h => by cases d <;> exact h) (fun o ho => ?_)
  simp only [qa, qb, qc, qd] at ho; subst ho
  refine ⟨.agg (mvA ⟨1, 16, 0, 0, false⟩), Or.inl ⟨by kernel_rfl, fun w' hl => Or.inl ?_⟩, ?_⟩
  · (go_simp; try rfl)
  simp only [Act.put, pa, pb, pc]
  refine ltk 11 (by kernel_rfl) (fun _ _ d _ _ h => by cases d <;> exact h) (fun o ho => ?_)
  simp only [qa, qb, qc, qd] at ho; subst ho
  refine ⟨.bool true, Or.inl ⟨by kernel_rfl, fun w' hl => Or.inl (run_mvE _ _ rfl ⟨1, 16, 0, 0, false⟩ ⟨1, 16, 0, 0, false⟩ rfl rfl (fit_lit _ _ _ rfl) (fit_lit _ _ _ rfl) true (by decide))⟩, ?_⟩
  simp only [Act.put, pa, pb, pc]
  refine ltk 12 (by kernel_rfl) (fun _ _ d _ _ h => by cases d <;> exact h) (fun o ho => ?_)
  simp only [qa, qb, qc, qd] at ho; subst ho
  apply Exists.intro
  refine ⟨Or.inl ⟨by kernel_rfl, fun w' hl => Or.inl ?_⟩, ?_⟩
  · (go_simp; try with_reducible rfl)
  simp only [Act.put, pa, pb, pc]
  refine ltk 13 (by kernel_rfl) (fun _ _ d _ _ h => by cases d <;> exact h) (fun o ho => ?_)
  simp only [qa, qb, qc, qd] at ho; subst ho
  apply Exists.intro
  refine ⟨Or.inl ⟨by kernel_rfl, fun w' hl => Or.inl ?_⟩, ?_⟩
  · (go_simp; try with_reducible rfl)
  simp only [Act.put, pa, pb, pc]
  refine ltk 14 (by kernel_rfl) (fun _ _ d _ _ h => by cases d <;> exact h) (fun o ho => ?_)
  simp only [qa, qb, qc, qd] at ho; subst ho
  apply Exists.intro
  refine ⟨Or.inl ⟨by kernel_rfl, fun w' hl => Or.inl ?_⟩, ?_⟩
  · (go_simp; try with_reducible rfl)
  simp only [Act.put, pa, pb, pc]
  refine ltk 15 (by kernel_rfl) (fun _ _ d _ _ h => by cases d <;> exact h) (fun o ho => ?_)
  simp only [qa, qb, qc, qd] at ho; subst ho
  apply Exists.intro
  refine ⟨Or.inl ⟨by kernel_rfl, fun w' hl => Or.inl ?_⟩, ?_⟩
  · (go_simp; try with_reducible rfl)
  simp only [Act.put, pa, pb, pc]
  refine ltk 16 (by kernel_rfl) (fun _ _ d _ _ h => by cases d <;> exact h) (fun o ho => ?_)
  simp only [qa, qb, qc, qd] at ho; subst ho
  refine ⟨.agg (mvA ⟨8, 24, 0, 0, false⟩), Or.inl ⟨by kernel_rfl, fun w' hl => Or.inl (run_mvAt _ rfl g0 5 25 rfl rfl ⟨8, 24, 0⟩ ((HE0.out.later hl).get HA05.out))⟩, ?_⟩
  simp only [Act.put, pa, pb, pc]
  refine ltk 17 (by kernel_rfl) (fun _ _ d _ _ h => by cases d <;> exact h) (fun o ho => ?_)
  simp only [qa, qb, qc, qd] at ho; subst ho
  refine ⟨.agg (mvA ⟨8, 24, 0, 0, false⟩), Or.inl ⟨by kernel_rfl, fun w' hl => Or.inl ?_⟩, ?_⟩
  · (go_simp; try rfl)
  simp only [Act.put, pa, pb, pc]
  refine ltk 18 (by kernel_rfl) (fun _ _ d _ _ h => by cases d <;> exact h) (fun o ho => ?_)
  simp only [qa, qb, qc, qd] at ho; subst ho
  refine ⟨.bool true, Or.inl ⟨by kernel_rfl, fun w' hl => Or.inl (run_mvE _ _ rfl ⟨8, 24, 0, 0, false⟩ ⟨8, 24, 0, 0, false⟩ rfl rfl (fit_lit _ _ _ rfl) (fit_lit _ _ _ rfl) true (by decide))⟩, ?_⟩
  simp only [Act.put, pa, pb, pc]
  refine ltk 19 (by kernel_rfl) (fun _ _ d _ _ h => by cases d <;> exact h) (fun o ho => ?_)
  simp only [qa, qb, qc, qd] at ho; subst ho
  apply Exists.intro
  refine ⟨Or.inl ⟨by kernel_rfl, fun w' hl => Or.inl ?_⟩, ?_⟩
  · (go_simp; try with_reducible rfl)
  simp only [Act.put, pa, pb, pc]
  refine ltk 20 (by kernel_rfl) (fun _ _ d _ _ h => by cases d <;> exact h) (fun o ho => ?_)
  simp only [qa, qb, qc, qd] at ho; subst ho
  apply Exists.intro
  refine ⟨Or.inl ⟨by kernel_rfl, fun w' hl => Or.inl ?_⟩, ?_⟩
  · (go_simp; try with_reducible rfl)
  simp only [Act.put, pa, pb, pc]
  refine ltk 21 (by kernel_rfl) (fun _ _ d _ _ h => by cases d <;> exact h) (fun o ho => ?_)
  simp only [qa, qb, qc, qd] at ho; subst ho
  apply Exists.intro
  refine ⟨Or.inl ⟨by kernel_rfl, fun w' hl => Or.inl ?_⟩, ?_⟩
  · (go_simp; try with_reducible rfl)
  simp only [Act.put, pa, pb, pc]
  refine ltk 22 (by kernel_rfl) (fun _ _ d _ _ h => by cases d <;> exact h) (fun o ho => ?_)
  simp only [qa, qb, qc, qd] at ho; subst ho
  apply Exists.intro
  refine ⟨Or.inl ⟨by kernel_rfl, fun w' hl => Or.inl ?_⟩, ?_⟩
  · (go_simp; try with_reducible rfl)
  simp only [Act.put, pa, pb, pc]
  refine ltk 23 (by kernel_rfl) (fun _ _ d _ _ h => by cases d <;> exact h) (fun o ho => ?_)
  simp only [qa, qb, qc, qd] at ho; subst ho
  apply Exists.intro
  refine ⟨Or.inl ⟨by kernel_rfl, fun w' hl => Or.inl ?_⟩, ?_⟩
  · (go_simp; try with_reducible rfl)
  simp only [Act.put, pa, pb, pc]
  refine ltk 24 (by kernel_rfl) (fun _ _ d _ _ h => by cases d <;> exact h) (fun o ho => ?_)
  simp only [qa, qb, qc, qd] at ho; subst ho
  apply Exists.intro
  refine ⟨Or.inl ⟨by kernel_rfl, fun w' hl => Or.inl ?_⟩, ?_⟩
  · (go_simp; try with_reducible rfl)
  simp only [Act.put, pa, pb, pc]
  refine ltk 25 (by kernel_rfl) (fun _ _ d _ _ h => by cases d <;> exact h) (fun o ho => ?_)
  simp only [qa, qb, qc, qd] at ho; subst ho
  apply Exists.intro
  refine ⟨Or.inl ⟨by kernel_rfl, fun w' hl => Or.inl ?_⟩, ?_⟩
  · (go_simp; try with_reducible rfl)
  simp only [Act.put, pa, pb, pc]
  refine ltk 26 (by kernel_rfl) (fun _ _ d _ _ h => by cases d <;> exact h) (fun o ho => ?_)
  simp only [qa, qb, qc, qd] at ho; subst ho
  apply Exists.intro
  refine ⟨Or.inl ⟨by kernel_rfl, fun w' hl => Or.inl ?_⟩, ?_⟩
  · (go_simp; try with_reducible rfl)
  simp only [Act.put, pa, pb, pc]
  refine ltk 27 (by kernel_rfl) (fun _ _ d _ _ h => by cases d <;> exact h) (fun o ho => ?_)
  simp only [qa, qb, qc, qd] at ho; subst ho
  apply Exists.intro
  refine ⟨Or.inl ⟨by kernel_rfl, fun w' hl => Or.inl ?_⟩, ?_⟩
  · (go_simp; try with_reducible rfl)
  simp only [Act.put, pa, pb, pc]
  refine ltk 28 (by kernel_rfl) (fun _ _ d _ _ h => by cases d <;> exact h) (fun o ho => ?_)
  simp only [qa, qb, qc, qd] at ho; subst ho
  apply Exists.intro
  refine ⟨Or.inl ⟨by kernel_rfl, fun w' hl => Or.inl ?_⟩, ?_⟩
  · (go_simp; try with_reducible rfl)
  simp only [Act.put, pa, pb, pc]
  refine ltk 29 (by kernel_rfl) (fun _ _ d _ _ h => by cases d <;> exact h) (fun o ho => ?_)
  simp only [qa, qb, qc, qd] at ho; subst ho
  refine ⟨.int .u8 2, Or.inl ⟨by kernel_rfl, fun w' hl => Or.inl (run_get 5 _ rfl g1 2 rfl Tryd.underlying5 rfl (.int .u8 2) ((HE1.out.later hl).get HA10.out 2 _ rfl))⟩, ?_⟩
  simp only [Act.put, pa, pb, pc]
  refine ltk 30 (by kernel_rfl) (fun _ _ d _ _ h => by cases d <;> exact h) (fun o ho => ?_)
  simp only [qa, qb, qc, qd] at ho; subst ho
  apply Exists.intro
  refine ⟨Or.inl ⟨by kernel_rfl, fun w' hl => Or.inl ?_⟩, ?_⟩
  · (go_simp; try with_reducible rfl)
  simp only [Act.put, pa, pb, pc]
  refine ltk 31 (by kernel_rfl) (fun _ _ d _ _ h => by cases d <;> exact h) (fun o ho => ?_)
  simp only [qa, qb, qc, qd] at ho; subst ho
  apply Exists.intro
  refine ⟨Or.inl ⟨by kernel_rfl, fun w' hl => Or.inl ?_⟩, ?_⟩
  · (go_simp; try with_reducible rfl)
  simp only [Act.put, pa, pb, pc]
  refine ltk 32 (by kernel_rfl) (fun _ _ d _ _ h => by cases d <;> exact h) (fun o ho => ?_)
  simp only [qa, qb, qc, qd] at ho; subst ho
  apply Exists.intro
  refine ⟨Or.inl ⟨by kernel_rfl, fun w' hl => Or.inl ?_⟩, ?_⟩
  · (go_simp; try with_reducible rfl)
  simp only [Act.put, pa, pb, pc]
  refine ltk 33 (by kernel_rfl) (fun _ _ d _ _ h => by cases d <;> exact h) (fun o ho => ?_)
  simp only [qa, qb, qc, qd] at ho; subst ho
  apply Exists.intro
  refine ⟨Or.inl ⟨by kernel_rfl, fun w' hl => Or.inl ?_⟩, ?_⟩
  · (go_simp; try with_reducible rfl)
  simp only [Act.put, pa, pb, pc]
  refine ltk 34 (by kernel_rfl) (fun _ _ d _ _ h => by cases d <;> exact h) (fun o ho => ?_)
  simp only [qa, qb, qc, qd] at ho; subst ho
  apply Exists.intro
  refine ⟨Or.inl ⟨by kernel_rfl, fun w' hl => Or.inl ?_⟩, ?_⟩
  · (go_simp; try with_reducible rfl)
  simp only [Act.put, pa, pb, pc]
  refine ltk 35 (by kernel_rfl) (fun _ _ d _ _ h => by cases d <;> exact h) (fun o ho => ?_)
  simp only [qa, qb, qc, qd] at ho; subst ho
  refine ⟨.agg (mvA ⟨48, 57, 5, 0, false⟩), Or.inl ⟨by kernel_rfl, fun w' hl => Or.inl (run_mvAt _ rfl g1 7 35 rfl rfl ⟨48, 57, 5⟩ ((HE1.out.later hl).get HA17.out))⟩, ?_⟩
  simp only [Act.put, pa, pb, pc]
  refine ltk 36 (by kernel_rfl) (fun _ _ d _ _ h => by cases d <;> exact h) (fun o ho => ?_)
  simp only [qa, qb, qc, qd] at ho; subst ho
  refine ⟨.agg (mvA ⟨48, 57, 5, 0, false⟩), Or.inl ⟨by kernel_rfl, fun w' hl => Or.inl ?_⟩, ?_⟩
  · (go_simp; try rfl)
  simp only [Act.put, pa, pb, pc]
  refine ltk 37 (by kernel_rfl) (fun _ _ d _ _ h => by cases d <;> exact h) (fun o ho => ?_)
  simp only [qa, qb, qc, qd] at ho; subst ho
  refine ⟨.bool true, Or.inl ⟨by kernel_rfl, fun w' hl => Or.inl (run_mvE _ _ rfl ⟨48, 57, 5, 0, false⟩ ⟨48, 57, 5, 0, false⟩ rfl rfl (fit_lit _ _ _ rfl) (fit_lit _ _ _ rfl) true (by decide))⟩, ?_⟩
  simp only [Act.put, pa, pb, pc]
  refine ltk 38 (by kernel_rfl) (fun _ _ d _ _ h => by cases d <;> exact h) (fun o ho => ?_)
  simp only [qa, qb, qc, qd] at ho; subst ho
  apply Exists.intro
  refine ⟨Or.inl ⟨by kernel_rfl, fun w' hl => Or.inl ?_⟩, ?_⟩
  · (go_simp; try with_reducible rfl)
  simp only [Act.put, pa, pb, pc]
  refine ltk 39 (by kernel_rfl) (fun _ _ d _ _ h => by cases d <;> exact h) (fun o ho => ?_)
  simp only [qa, qb, qc, qd] at ho; subst ho
  apply Exists.intro
  refine ⟨Or.inl ⟨by kernel_rfl, fun w' hl => Or.inl ?_⟩, ?_⟩
  · (go_simp; try with_reducible rfl)
  simp only [Act.put, pa, pb, pc]
  refine ltk 40 (by kernel_rfl) (fun _ _ d _ _ h => by cases d <;> exact h) (fun o ho => ?_)
  simp only [qa, qb, qc, qd] at ho; subst ho
  apply Exists.intro
  refine ⟨Or.inl ⟨by kernel_rfl, fun w' hl => Or.inl ?_⟩, ?_⟩
  · (go_simp; try with_reducible rfl)
  simp only [Act.put, pa, pb, pc]
  refine ltk 41 (by kernel_rfl) (fun _ _ d _ _ h => by cases d <;> exact h) (fun o ho => ?_)
  simp only [qa, qb, qc, qd] at ho; subst ho
  apply Exists.intro
  refine ⟨Or.inl ⟨by kernel_rfl, fun w' hl => Or.inl ?_⟩, ?_⟩
  · (go_simp; try with_reducible rfl)
  simp only [Act.put, pa, pb, pc]
  refine ltk 42 (by kernel_rfl) (fun _ _ d _ _ h => by cases d <;> exact h) (fun o ho => ?_)
  simp only [qa, qb, qc, qd] at ho; subst ho
  apply Exists.intro
  refine ⟨Or.inl ⟨by kernel_rfl, fun w' hl => Or.inl ?_⟩, ?_⟩
  · (go_simp; try with_reducible rfl)
  simp only [Act.put, pa, pb, pc]
  refine ltk 43 (by kernel_rfl) (fun _ _ d _ _ h => by cases d <;> exact h) (fun o ho => ?_)
  simp only [qa, qb, qc, qd] at ho; subst ho
  apply Exists.intro
  refine ⟨Or.inl ⟨by kernel_rfl, fun w' hl => Or.inl ?_⟩, ?_⟩
  · (go_simp; try with_reducible rfl)
  simp only [Act.put, pa, pb, pc]
  refine ltk 44 (by kernel_rfl) (fun _ _ d _ _ h => by cases d <;> exact h) (fun o ho => ?_)
  simp only [qa, qb, qc, qd] at ho; subst ho
  apply Exists.intro
  refine ⟨Or.inl ⟨by kernel_rfl, fun w' hl => Or.inl ?_⟩, ?_⟩
  · (go_simp; try with_reducible rfl)
  simp only [Act.put, pa, pb, pc]
  refine ltk 45 (by kernel_rfl) (fun _ _ d _ _ h => by cases d <;> exact h) (fun o ho => ?_)
  simp only [qa, qb, qc, qd] at ho; subst ho
  apply Exists.intro
  refine ⟨Or.inl ⟨by kernel_rfl, fun w' hl => Or.inl ?_⟩, ?_⟩
  · (go_simp; try with_reducible rfl)
  simp only [Act.put, pa, pb, pc]
  refine ltk 46 (by kernel_rfl) (fun _ _ d _ _ h => by cases d <;> exact h) (fun o ho => ?_)
  simp only [qa, qb, qc, qd] at ho; subst ho
  apply Exists.intro
  refine ⟨Or.inl ⟨by kernel_rfl, fun w' hl => Or.inl ?_⟩, ?_⟩
  · (go_simp; try with_reducible rfl)
  simp only [Act.put, pa, pb, pc]
  refine ltk 47 (by kernel_rfl) (fun _ _ d _ _ h => by cases d <;> exact h) (fun o ho => ?_)
  simp only [qa, qb, qc, qd] at ho; subst ho
  apply Exists.intro
  refine ⟨Or.inl ⟨by kernel_rfl, fun w' hl => Or.inl ?_⟩, ?_⟩
  · (go_simp; try with_reducible rfl)
  simp only [Act.put, pa, pb, pc]
  refine ltk 48 (by kernel_rfl) (fun _ _ d _ _ h => by cases d <;> exact h) (fun o ho => ?_)
  simp only [qa, qb, qc, qd] at ho; subst ho
  refine ⟨.int .i8 43, Or.inl ⟨by kernel_rfl, fun w' hl => Or.inl (run_get 26 _ rfl g2 1 rfl Tryd.underlying26 rfl (.int .i8 43) ((HE2.out.later hl).get HA20.out 1 _ rfl))⟩, ?_⟩
  simp only [Act.put, pa, pb, pc]
  refine ltk 49 (by kernel_rfl) (fun _ _ d _ _ h => by cases d <;> exact h) (fun o ho => ?_)
  simp only [qa, qb, qc, qd] at ho; subst ho
  apply Exists.intro
  refine ⟨Or.inl ⟨by kernel_rfl, fun w' hl => Or.inl ?_⟩, ?_⟩
  · (go_simp; try with_reducible rfl)
  simp only [Act.put, pa, pb, pc]
  refine ltk 50 (by kernel_rfl) (fun _ _ d _ _ h => by cases d <;> exact h) (fun o ho => ?_)
  simp only [qa, qb, qc, qd] at ho; subst ho
  apply Exists.intro
  refine ⟨Or.inl ⟨by kernel_rfl, fun w' hl => Or.inl ?_⟩, ?_⟩
  · (go_simp; try with_reducible rfl)
  simp only [Act.put, pa, pb, pc]
  refine ltk 51 (by kernel_rfl) (fun _ _ d _ _ h => by cases d <;> exact h) (fun o ho => ?_)
  simp only [qa, qb, qc, qd] at ho; subst ho
  apply Exists.intro
  refine ⟨Or.inl ⟨by kernel_rfl, fun w' hl => Or.inl ?_⟩, ?_⟩
  · (go_simp; try with_reducible rfl)
  simp only [Act.put, pa, pb, pc]
  refine ltk 52 (by kernel_rfl) (fun _ _ d _ _ h => by cases d <;> exact h) (fun o ho => ?_)
  simp only [qa, qb, qc, qd] at ho; subst ho
  refine ⟨_, Or.inl ⟨by kernel_rfl, fun w' hl => Or.inl (run_load _ rfl _ rfl (P2) (HR6.out.later hl))⟩, ?_⟩
  simp only [Act.put, pa, pb, pc]
  refine ltk 53 (by kernel_rfl) (fun _ _ d _ _ h => by cases d <;> exact h) (fun o ho => ?_)
  simp only [qa, qb, qc, qd] at ho; subst ho
  apply Exists.intro
  refine ⟨Or.inl ⟨by kernel_rfl, fun w' hl => Or.inl ?_⟩, ?_⟩
  · (go_simp; try with_reducible rfl)
  simp only [Act.put, pa, pb, pc]
  refine ltk 54 (by kernel_rfl) (fun _ _ d _ _ h => by cases d <;> exact h) (fun o ho => ?_)
  simp only [qa, qb, qc, qd] at ho; subst ho
  apply Exists.intro
  refine ⟨Or.inl ⟨by kernel_rfl, fun w' hl => Or.inl ?_⟩, ?_⟩
  · (go_simp; try with_reducible rfl)
  simp only [Act.put, pa, pb, pc]
  refine ltk 55 (by kernel_rfl) (fun _ _ d _ _ h => by cases d <;> exact h) (fun o ho => ?_)
  simp only [qa, qb, qc, qd] at ho; subst ho
  refine ⟨.agg (mvA ⟨36, 43, 0, 0, false⟩), Or.inl ⟨by kernel_rfl, fun w' hl => Or.inl (run_mvAt _ rfl g2 0 0 rfl rfl ⟨36, 43, 0⟩ ((HE2.out.later hl).get HA20.out))⟩, ?_⟩
  simp only [Act.put, pa, pb, pc]
  refine late_one 56 (by kernel_rfl) (by kernel_rfl) (fun o ho => ?_)
  simp only [qa, qb, qc, qd] at ho; subst ho
  refine ⟨by kernel_rfl, fun wn hl K hK => ?_⟩
  have HR6 := Lib.hid (HR6.out.later hl); have HE0 := Lib.hid (HE0.out.later hl); have HE1 := Lib.hid (HE1.out.later hl); have HE2 := Lib.hid (HE2.out.later hl); have HB := Lib.hid (below_on HB.out hl); clear hl
  refine wp_enter _ _ (by go_simp; exact ⟨rfl, rfl⟩) ?_
  refine (takK HK1.out _ HF2.out (fit_lit _ _ _ rfl) (HT.out.on HB.out)).mono ?_; rintro e wm ⟨rfl, hb⟩; refine ⟨_, rfl, ?_⟩
  refine hK.out _ _ hb ?_
  have HR6 := Lib.hid (HR6.out.later hb); have HE0 := Lib.hid (HE0.out.later hb); have HE1 := Lib.hid (HE1.out.later hb); have HE2 := Lib.hid (HE2.out.later hb); have HB := Lib.hid (below_on HB.out hb); clear hb
  clear hK K
  simp only [Act.put, pa, pb, pc]
  refine ltk 57 (by kernel_rfl) (fun _ _ d _ _ h => by cases d <;> exact h) (fun o ho => ?_)
  simp only [qa, qb, qc, qd] at ho; subst ho
  apply Exists.intro
  refine ⟨Or.inl ⟨by kernel_rfl, fun w' hl => Or.inl ?_⟩, ?_⟩
  · (go_simp; try with_reducible rfl)
  simp only [Act.put, pa, pb, pc]
  refine ltk 58 (by kernel_rfl) (fun _ _ d _ _ h => by cases d <;> exact h) (fun o ho => ?_)
  simp only [qa, qb, qc, qd] at ho; subst ho
  apply Exists.intro
  refine ⟨Or.inl ⟨by kernel_rfl, fun w' hl => Or.inl ?_⟩, ?_⟩
  · (go_simp; try with_reducible rfl)
  simp only [Act.put, pa, pb, pc]
  refine ltk 59 (by kernel_rfl) (fun _ _ d _ _ h => by cases d <;> exact h) (fun o ho => ?_)
  simp only [qa, qb, qc, qd] at ho; subst ho
  apply Exists.intro
  refine ⟨Or.inl ⟨by kernel_rfl, fun w' hl => Or.inl ?_⟩, ?_⟩
  · (go_simp; try with_reducible rfl)
  simp only [Act.put, pa, pb, pc]
  refine ltk 60 (by kernel_rfl) (fun _ _ d _ _ h => by cases d <;> exact h) (fun o ho => ?_)
  simp only [qa, qb, qc, qd] at ho; subst ho
  refine ⟨_, Or.inl ⟨by kernel_rfl, fun w' hl => Or.inl (run_load _ rfl _ rfl (P2) (HR6.out.later hl))⟩, ?_⟩
  simp only [Act.put, pa, pb, pc]
  refine ltk 61 (by kernel_rfl) (fun _ _ d _ _ h => by cases d <;> exact h) (fun o ho => ?_)
  simp only [qa, qb, qc, qd] at ho; subst ho
  apply Exists.intro
  refine ⟨Or.inl ⟨by kernel_rfl, fun w' hl => Or.inl ?_⟩, ?_⟩
  · (go_simp; try with_reducible rfl)
  simp only [Act.put, pa, pb, pc]
  refine ltk 62 (by kernel_rfl) (fun _ _ d _ _ h => by cases d <;> exact h) (fun o ho => ?_)
  simp only [qa, qb, qc, qd] at ho; subst ho
  apply Exists.intro
  refine ⟨Or.inl ⟨by kernel_rfl, fun w' hl => Or.inl ?_⟩, ?_⟩
  · (go_simp; try with_reducible rfl)
  simp only [Act.put, pa, pb, pc]
  refine ltk 63 (by kernel_rfl) (fun _ _ d _ _ h => by cases d <;> exact h) (fun o ho => ?_)
  simp only [qa, qb, qc, qd] at ho; subst ho
  refine ⟨.agg (mvA ⟨36, 44, 0, 0, false⟩), Or.inl ⟨by kernel_rfl, fun w' hl => Or.inl (run_mvAt _ rfl g2 1 5 rfl rfl ⟨36, 44, 0⟩ ((HE2.out.later hl).get HA21.out))⟩, ?_⟩
  simp only [Act.put, pa, pb, pc]
  refine late_one 64 (by kernel_rfl) (by kernel_rfl) (fun o ho => ?_)
  simp only [qa, qb, qc, qd] at ho; subst ho
  refine ⟨by kernel_rfl, fun wn hl K hK => ?_⟩
  have HR6 := Lib.hid (HR6.out.later hl); have HE0 := Lib.hid (HE0.out.later hl); have HE1 := Lib.hid (HE1.out.later hl); have HE2 := Lib.hid (HE2.out.later hl); have HB := Lib.hid (below_on HB.out hl); clear hl
  refine wp_enter _ _ (by go_simp; exact ⟨rfl, rfl⟩) ?_
  refine (takesK HK2.out _ HF2.out (fit_lit _ _ _ rfl) (HT.out.on HB.out)).mono ?_; rintro e wm ⟨rfl, hb⟩; refine ⟨_, rfl, ?_⟩
  refine hK.out _ _ hb ?_
  have HR6 := Lib.hid (HR6.out.later hb); have HE0 := Lib.hid (HE0.out.later hb); have HE1 := Lib.hid (HE1.out.later hb); have HE2 := Lib.hid (HE2.out.later hb); have HB := Lib.hid (below_on HB.out hb); clear hb
  clear hK K
  simp only [Act.put, pa, pb, pc]
  refine ltk 65 (by kernel_rfl) (fun _ _ d _ _ h => by cases d <;> exact h) (fun o ho => ?_)
  simp only [qa, qb, qc, qd] at ho; subst ho
  apply Exists.intro
  refine ⟨Or.inl ⟨by kernel_rfl, fun w' hl => Or.inl ?_⟩, ?_⟩
  · (go_simp; try with_reducible rfl)
  simp only [Act.put, pa, pb, pc]
  refine ltk 66 (by kernel_rfl) (fun _ _ d _ _ h => by cases d <;> exact h) (fun o ho => ?_)
  simp only [qa, qb, qc, qd] at ho; subst ho
  apply Exists.intro
  refine ⟨Or.inl ⟨by kernel_rfl, fun w' hl => Or.inl ?_⟩, ?_⟩
  · (go_simp; try with_reducible rfl)
  simp only [Act.put, pa, pb, pc]
  refine ltk 67 (by kernel_rfl) (fun _ _ d _ _ h => by cases d <;> exact h) (fun o ho => ?_)
  simp only [qa, qb, qc, qd] at ho; subst ho
  apply Exists.intro
  refine ⟨Or.inl ⟨by kernel_rfl, fun w' hl => Or.inl ?_⟩, ?_⟩
  · (go_simp; try with_reducible rfl)
  simp only [Act.put, pa, pb, pc]
  refine late_end (by kernel_rfl) (fun wn hl => ?_)
  have HR6 := Lib.hid (HR6.out.later hl); have HE0 := Lib.hid (HE0.out.later hl); have HE1 := Lib.hid (HE1.out.later hl); have HE2 := Lib.hid (HE2.out.later hl); have HB := Lib.hid (below_on HB.out hl); clear hl
  go_wp2_with fail
  go_ret
  exact ⟨rfl, HB.out⟩
end Go.Proofs.YtfdheeogpndklaaDoor
