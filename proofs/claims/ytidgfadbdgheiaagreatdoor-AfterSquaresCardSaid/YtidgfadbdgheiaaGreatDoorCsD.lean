/-
 Contracts of castle's mayGo, named.
-/
import Derived.Test.YtidgfadbdgheiaaGreatDoorCsC
namespace Go.Proofs.YtidgfadbdgheiaaGreatDoor
open Go.RowKit Go.Shelf
set_option linter.unusedVariables false
set_option linter.unusedSimpArgs false
attribute [local go_sem] Oper.semAt_some

structure CsR (p : Nat → Int) : Prop where
 at_ : AtR p
 rk : ∀ i, i < 4 → -128 ≤ p (79 + i) ∧ p (79 + i) ≤ 127
theorem results_cm2 {fn : Func} {i j : Tmp} (h : fn.results = #[.cell i 40, .tmp j]) (tmps : Array Value) (w : World) (b : Nat) (m : Mv) (x : Value) (hp : tmps.getD i undef = .pointer (some ⟨b, 0, none⟩)) (hx : tmps.getD j undef = x) (hr : Blk w b 40 (mvA m)) :
  (results fn tmps).run Tryz.prog w = .ok (.tuple #[.agg (mvA m), x]) w := by
 have hl := run_loadVar_row w b 40 40 (mvA m) (0, 0) _ hr Tryz.underlying40 rfl sizeMv
 have hp' : tmps[i]?.getD undef = .pointer (some ⟨b, 0, none⟩) := by simpa using hp
 have hx' : tmps[j]?.getD undef = x := by simpa using hx
 simp [results, h, hp', hx', asAddr, hl]
theorem run_posC {o : Oper} {a : Act} {w : World} (x : Operand) (ho : o.op = .load 31 x) (b : Nat) (hx : a.eval x = .pointer (some ⟨b, 0, none⟩)) (p : Nat → Int) (hr : Row w b p) : (execOp a.eval o).run Tryz.prog w = .ok (.value (.agg (posA p))) w := run_load x ho b hx p hr
set_option maxRecDepth 100000 in
set_option maxHeartbeats 4000000 in
theorem cs_may (p : Nat → Int) (m : Mv) (n : Nat) (hn : n < 2) (w : World) (hp : AtR p) (hm : FitV m) (hs : sdC (p 78) m = (n : Int)) (hT : CsT w) : Calls Tryz.prog 44 #[.agg (posA p), .agg (mvA m)] w (BoL (mayC p m) w) := by
 have HM := Lib.hid hm
 have HN := Lib.hid hn
 have HT := Lib.hid hT
 have HSd := Lib.hid hs
 obtain ⟨_, _, _, hf0, hf1, ht0, ht1⟩ := sdC_at (c := p 78) (m := m) (by rw [hs]; omega)
 have h1 := hmC_rng (p 78)
 have h2 := gk_rng (n : Int)
 have h3 := gr_rng (n : Int)
 obtain ⟨K, hK⟩ : ∃ K, hmC (p 78) + gkC (n : Int) = K := ⟨_, rfl⟩
 obtain ⟨R, hR⟩ : ∃ R, hmC (p 78) + grC (n : Int) = R := ⟨_, rfl⟩
 have HKg := Lib.hid hK
 have HRg := Lib.hid hR
 obtain ⟨P1, hP1⟩ : ∃ P1, putP p m.f 0 = P1 := ⟨_, rfl⟩
 obtain ⟨P2, hP2⟩ : ∃ P2, putP P1 m.t 0 = P2 := ⟨_, rfl⟩
 have HP1 := Lib.hid hP1
 have HP2 := Lib.hid hP2
 have hbr : bareC p m.f m.t = P2 := by unfold bareC; rw [hP1, hP2]
 have HA2 := Lib.hid (show AtR P2 by rw [← hbr]; exact hp.bare _ _)
 have hwf : IntKind.i64.wrap m.f = m.f := by rw [IntKind.wrap_i64]; omega
 have hwt : IntKind.i64.wrap m.t = m.t := by rw [IntKind.wrap_i64]; omega
 have hf2 : 0 ≤ m.f ∧ m.f ≤ 63 := by omega
 have ht2 : 0 ≤ m.t ∧ m.t ≤ 63 := by omega
 have hK2 : 0 ≤ K ∧ K ≤ 63 := by omega
 have hR2 : 0 ≤ R ∧ R ≤ 63 := by omega
 obtain ⟨f1, hf1'⟩ : ∃ f1, freeC P2 m.f K = f1 := ⟨_, rfl⟩
 obtain ⟨f2, hf2'⟩ : ∃ f2, freeC P2 m.t R = f2 := ⟨_, rfl⟩
 obtain ⟨f3, hf3'⟩ : ∃ f3, safeC P2 m.f K = f3 := ⟨_, rfl⟩
 have HF1 := Lib.hid hf1'
 have HF2 := Lib.hid hf2'
 have HF3 := Lib.hid hf3'
 have HS := Lib.hid (show mayC p m = (f1 && (f2 && f3)) by unfold mayC; rw [hs, hK, hR, hbr, hf1', hf2', hf3'])
 clear hm hn hT hs hp hK hR hP1 hP2 hbr hf1' hf2' hf3' hf0 hf1 ht0 ht1 h1 h2 h3
 have HB := Lib.hid (Below.refl w.heap.size w)
 go_enter Tryz.func44, Tryz.ntmps44
 go_wp2_with (first
   | (guard_target = Go.wpList _ _ _ ((⟨some 2, .box _ _, _, _, _, _⟩ : Go.Oper) :: _) _ _; refine step_box rfl _ rfl p rfl ?_; intro b2 w1 N R; have HG2 := Lib.hid (show w.heap.size ≤ b2 by have := HB.out.size; have := N.at_; omega); have HB := Lib.hid (below_on HB.out N.below); have HR2 := Lib.hid R; clear N R)
   | (guard_target = Go.wpList _ _ _ ((⟨some 3, .box _ _, _, _, _, _⟩ : Go.Oper) :: _) _ _; refine blk_box rfl 40 _ rfl (mvA m) rfl ?_; intro b3 w1 N R; have HG3 := Lib.hid (show w.heap.size ≤ b3 by have := HB.out.size; have := N.at_; omega); have HR2 := Lib.hid (HR2.out.later N.below); have HB := Lib.hid (below_on HB.out N.below); have HR3 := Lib.hid R; clear N R))
 refine late_begin 8 (by kernel_rfl) ?_
 refine ltk 0 (by kernel_rfl) (fun _ _ d _ _ h => by cases d <;> exact h) (fun o ho => ?_)
 simp only [qa, qb, qc, qd] at ho; subst ho
 apply Exists.intro
 refine ⟨Or.inl ⟨by kernel_rfl, fun w' hl => Or.inl ?_⟩, ?_⟩
 ·(go_simp; try with_reducible rfl)
 simp only [Act.put, pa, pb, pc]
 refine ltk 1 (by kernel_rfl) (fun _ _ d _ _ h => by cases d <;> exact h) (fun o ho => ?_)
 simp only [qa, qb, qc, qd] at ho; subst ho
 refine ⟨.int .i8 m.f, Or.inl ⟨by kernel_rfl, fun w' hl => Or.inl (run_get 26 _ rfl b3 0 rfl Tryz.underlying26 rfl (.int .i8 m.f) (((HR3.out.later hl).cell 0).trans rfl))⟩, ?_⟩
 simp only [Act.put, pa, pb, pc]
 refine ltk 2 (by kernel_rfl) (fun _ _ d _ _ h => by cases d <;> exact h) (fun o ho => ?_)
 simp only [qa, qb, qc, qd] at ho; subst ho
 refine ⟨.int .i64 m.f, Or.inl ⟨by kernel_rfl, fun w' hl => Or.inl ?_⟩, ?_⟩
 ·(go_simp <;> rw [hwf])
 simp only [Act.put, pa, pb, pc]
 refine ltk 3 (by kernel_rfl) (fun _ _ d _ _ h => by cases d <;> exact h) (fun o ho => ?_)
 simp only [qa, qb, qc, qd] at ho; subst ho
 apply Exists.intro
 refine ⟨Or.inl ⟨by kernel_rfl, fun w' hl => Or.inl ?_⟩, ?_⟩
 ·(go_simp; try with_reducible rfl)
 simp only [Act.put, pa, pb, pc]
 refine ltk 4 (by kernel_rfl) (fun _ _ d _ _ h => by cases d <;> exact h) (fun o ho => ?_)
 simp only [qa, qb, qc, qd] at ho; subst ho
 refine ⟨.int .i8 m.t, Or.inl ⟨by kernel_rfl, fun w' hl => Or.inl (run_get 26 _ rfl b3 1 rfl Tryz.underlying26 rfl (.int .i8 m.t) (((HR3.out.later hl).cell 1).trans rfl))⟩, ?_⟩
 simp only [Act.put, pa, pb, pc]
 refine ltk 5 (by kernel_rfl) (fun _ _ d _ _ h => by cases d <;> exact h) (fun o ho => ?_)
 simp only [qa, qb, qc, qd] at ho; subst ho
 refine ⟨.int .i64 m.t, Or.inl ⟨by kernel_rfl, fun w' hl => Or.inl ?_⟩, ?_⟩
 ·(go_simp <;> rw [hwt])
 simp only [Act.put, pa, pb, pc]
 refine ltk 6 (by kernel_rfl) (fun _ _ d _ _ h => by cases d <;> exact h) (fun o ho => ?_)
 simp only [qa, qb, qc, qd] at ho; subst ho
 apply Exists.intro
 refine ⟨Or.inl ⟨by kernel_rfl, fun w' hl => Or.inl ?_⟩, ?_⟩
 ·(go_simp; try with_reducible rfl)
 simp only [Act.put, pa, pb, pc]
 refine ltk 7 (by kernel_rfl) (fun _ _ d _ _ h => by cases d <;> exact h) (fun o ho => ?_)
 simp only [qa, qb, qc, qd] at ho; subst ho
 apply Exists.intro
 refine ⟨Or.inl ⟨by kernel_rfl, fun w' hl => Or.inl ?_⟩, ?_⟩
 ·(go_simp; try with_reducible rfl)
 simp only [Act.put, pa, pb, pc]
 refine late_end (by kernel_rfl) (fun wn hl => ?_)
 have HR2 := Lib.hid (HR2.out.later hl); have HR3 := Lib.hid (HR3.out.later hl); have HB := Lib.hid (below_on HB.out hl); clear hl
 cases f1
 ·go_wp2_with (first
   | (guard_target = Go.wpList _ _ _ ((⟨some _, .load _ (.tmp 2), _, _, _, _⟩ : Go.Oper) :: _) _ _; refine step_load rfl _ rfl b2 rfl p HR2.out ?_)
   | (guard_target = Go.wpList _ _ _ ((⟨some _, .load _ (.tmp 3), _, _, _, _⟩ : Go.Oper) :: _) _ _; refine blk_load rfl 40 _ rfl b3 rfl (mvA m) HR3.out _ Tryz.underlying40 rfl sizeMv ?_)
   | (go_at_call 15; refine (cs_goals p m n HN.out _ HM.out HSd.out (HT.out.on HB.out).gl).mono ?_; rintro e w3 ⟨rfl, hb⟩; rw [HKg.out, HRg.out]; have HR2 := Lib.hid (HR2.out.later hb); have HB := Lib.hid (below_on HB.out hb); clear hb)
   | (go_at_call 88; guard_target = Go.Calls _ _ #[Go.Value.agg (posA p), _, _] _ _; refine (put_pos p m.f 0 _ (by decide) (by decide)).mono ?_; rintro e w3 ⟨rfl, hb⟩; rw [HP1.out]; have HB := Lib.hid (below_on HB.out hb); clear hb)
   | (go_at_call 88; guard_target = Go.Calls _ _ #[Go.Value.agg (posA P1), _, _] _ _; refine (put_pos P1 m.t 0 _ (by decide) (by decide)).mono ?_; rintro e w3 ⟨rfl, hb⟩; rw [HP2.out]; have HB := Lib.hid (below_on HB.out hb); clear hb)
   | (guard_target = Go.wpList _ _ _ ((⟨some 10, .alloc _, _, _, _, _⟩ : Go.Oper) :: _) _ _; refine step_alloc (op := ⟨some 10, _, _, _, _, _⟩) rfl rfl ?_; intro b10 wn N R; have HG10 := Lib.hid (show w.heap.size ≤ b10 by have := HB.out.size; have := N.at_; omega); have HR10 := Lib.hid R; have HB := Lib.hid (below_on HB.out N.below); clear N R)
   | (guard_target = Go.wpList _ _ _ ((⟨none, .store _ (.tmp 10) _, _, _, _, _⟩ : Go.Oper) :: _) _ _; refine step_store (op := ⟨none, .store _ (.tmp 10) _, _, _, _, _⟩) rfl _ _ rfl b10 rfl zeroP P2 rfl HR10.out ?_; intro wn U R; have HR10 := Lib.hid R; have HB := Lib.hid (HB.out.trans (U.below HG10.out)); clear U R)
   | (guard_target = Go.wpList _ _ _ ((⟨some _, .load _ (.tmp 10), _, _, _, _⟩ : Go.Oper) :: _) _ _; refine step_load rfl _ rfl b10 rfl P2 HR10.out ?_)
   | (go_at_call 89; guard_target = Go.Calls _ _ #[_, Go.Value.int _ (m.f), _] _ _; refine (cs_free_any P2 (m.f) K _ HA2.out (by omega) (by omega) (HT.out.on HB.out)).mono ?_; rintro e w3 ⟨rfl, hb⟩; rw [HF1.out]; have HR10 := Lib.hid (HR10.out.later hb); have HB := Lib.hid (below_on HB.out hb); clear hb)
   | (go_at_call 89; guard_target = Go.Calls _ _ #[_, Go.Value.int _ (m.t), _] _ _; refine (cs_free_any P2 (m.t) R _ HA2.out (by omega) (by omega) (HT.out.on HB.out)).mono ?_; rintro e w3 ⟨rfl, hb⟩; rw [HF2.out]; have HR10 := Lib.hid (HR10.out.later hb); have HB := Lib.hid (below_on HB.out hb); clear hb)
   | (go_at_call 90; refine (cs_safe_any P2 m.f K _ HA2.out (by omega) (by omega) (HT.out.on HB.out)).mono ?_; rintro e w3 ⟨rfl, hb⟩; rw [HF3.out]; have HR10 := Lib.hid (HR10.out.later hb); have HB := Lib.hid (below_on HB.out hb); clear hb))
  go_ret
  exact ⟨by rw [HS.out]; rfl, HB.out⟩
 ·cases f2
  ·go_wp2_with (first
   | (guard_target = Go.wpList _ _ _ ((⟨some _, .load _ (.tmp 2), _, _, _, _⟩ : Go.Oper) :: _) _ _; refine step_load rfl _ rfl b2 rfl p HR2.out ?_)
   | (guard_target = Go.wpList _ _ _ ((⟨some _, .load _ (.tmp 3), _, _, _, _⟩ : Go.Oper) :: _) _ _; refine blk_load rfl 40 _ rfl b3 rfl (mvA m) HR3.out _ Tryz.underlying40 rfl sizeMv ?_)
   | (go_at_call 15; refine (cs_goals p m n HN.out _ HM.out HSd.out (HT.out.on HB.out).gl).mono ?_; rintro e w3 ⟨rfl, hb⟩; rw [HKg.out, HRg.out]; have HR2 := Lib.hid (HR2.out.later hb); have HB := Lib.hid (below_on HB.out hb); clear hb)
   | (go_at_call 88; guard_target = Go.Calls _ _ #[Go.Value.agg (posA p), _, _] _ _; refine (put_pos p m.f 0 _ (by decide) (by decide)).mono ?_; rintro e w3 ⟨rfl, hb⟩; rw [HP1.out]; have HB := Lib.hid (below_on HB.out hb); clear hb)
   | (go_at_call 88; guard_target = Go.Calls _ _ #[Go.Value.agg (posA P1), _, _] _ _; refine (put_pos P1 m.t 0 _ (by decide) (by decide)).mono ?_; rintro e w3 ⟨rfl, hb⟩; rw [HP2.out]; have HB := Lib.hid (below_on HB.out hb); clear hb)
   | (guard_target = Go.wpList _ _ _ ((⟨some 10, .alloc _, _, _, _, _⟩ : Go.Oper) :: _) _ _; refine step_alloc (op := ⟨some 10, _, _, _, _, _⟩) rfl rfl ?_; intro b10 wn N R; have HG10 := Lib.hid (show w.heap.size ≤ b10 by have := HB.out.size; have := N.at_; omega); have HR10 := Lib.hid R; have HB := Lib.hid (below_on HB.out N.below); clear N R)
   | (guard_target = Go.wpList _ _ _ ((⟨none, .store _ (.tmp 10) _, _, _, _, _⟩ : Go.Oper) :: _) _ _; refine step_store (op := ⟨none, .store _ (.tmp 10) _, _, _, _, _⟩) rfl _ _ rfl b10 rfl zeroP P2 rfl HR10.out ?_; intro wn U R; have HR10 := Lib.hid R; have HB := Lib.hid (HB.out.trans (U.below HG10.out)); clear U R)
   | (guard_target = Go.wpList _ _ _ ((⟨some _, .load _ (.tmp 10), _, _, _, _⟩ : Go.Oper) :: _) _ _; refine step_load rfl _ rfl b10 rfl P2 HR10.out ?_)
   | (go_at_call 89; guard_target = Go.Calls _ _ #[_, Go.Value.int _ (m.f), _] _ _; refine (cs_free_any P2 (m.f) K _ HA2.out (by omega) (by omega) (HT.out.on HB.out)).mono ?_; rintro e w3 ⟨rfl, hb⟩; rw [HF1.out]; have HR10 := Lib.hid (HR10.out.later hb); have HB := Lib.hid (below_on HB.out hb); clear hb)
   | (go_at_call 89; guard_target = Go.Calls _ _ #[_, Go.Value.int _ (m.t), _] _ _; refine (cs_free_any P2 (m.t) R _ HA2.out (by omega) (by omega) (HT.out.on HB.out)).mono ?_; rintro e w3 ⟨rfl, hb⟩; rw [HF2.out]; have HR10 := Lib.hid (HR10.out.later hb); have HB := Lib.hid (below_on HB.out hb); clear hb)
   | (go_at_call 90; refine (cs_safe_any P2 m.f K _ HA2.out (by omega) (by omega) (HT.out.on HB.out)).mono ?_; rintro e w3 ⟨rfl, hb⟩; rw [HF3.out]; have HR10 := Lib.hid (HR10.out.later hb); have HB := Lib.hid (below_on HB.out hb); clear hb))
   go_ret
   exact ⟨by rw [HS.out]; rfl, HB.out⟩
  ·go_wp2_with (first
   | (guard_target = Go.wpList _ _ _ ((⟨some _, .load _ (.tmp 2), _, _, _, _⟩ : Go.Oper) :: _) _ _; refine step_load rfl _ rfl b2 rfl p HR2.out ?_)
   | (guard_target = Go.wpList _ _ _ ((⟨some _, .load _ (.tmp 3), _, _, _, _⟩ : Go.Oper) :: _) _ _; refine blk_load rfl 40 _ rfl b3 rfl (mvA m) HR3.out _ Tryz.underlying40 rfl sizeMv ?_)
   | (go_at_call 15; refine (cs_goals p m n HN.out _ HM.out HSd.out (HT.out.on HB.out).gl).mono ?_; rintro e w3 ⟨rfl, hb⟩; rw [HKg.out, HRg.out]; have HR2 := Lib.hid (HR2.out.later hb); have HB := Lib.hid (below_on HB.out hb); clear hb)
   | (go_at_call 88; guard_target = Go.Calls _ _ #[Go.Value.agg (posA p), _, _] _ _; refine (put_pos p m.f 0 _ (by decide) (by decide)).mono ?_; rintro e w3 ⟨rfl, hb⟩; rw [HP1.out]; have HB := Lib.hid (below_on HB.out hb); clear hb)
   | (go_at_call 88; guard_target = Go.Calls _ _ #[Go.Value.agg (posA P1), _, _] _ _; refine (put_pos P1 m.t 0 _ (by decide) (by decide)).mono ?_; rintro e w3 ⟨rfl, hb⟩; rw [HP2.out]; have HB := Lib.hid (below_on HB.out hb); clear hb)
   | (guard_target = Go.wpList _ _ _ ((⟨some 10, .alloc _, _, _, _, _⟩ : Go.Oper) :: _) _ _; refine step_alloc (op := ⟨some 10, _, _, _, _, _⟩) rfl rfl ?_; intro b10 wn N R; have HG10 := Lib.hid (show w.heap.size ≤ b10 by have := HB.out.size; have := N.at_; omega); have HR10 := Lib.hid R; have HB := Lib.hid (below_on HB.out N.below); clear N R)
   | (guard_target = Go.wpList _ _ _ ((⟨none, .store _ (.tmp 10) _, _, _, _, _⟩ : Go.Oper) :: _) _ _; refine step_store (op := ⟨none, .store _ (.tmp 10) _, _, _, _, _⟩) rfl _ _ rfl b10 rfl zeroP P2 rfl HR10.out ?_; intro wn U R; have HR10 := Lib.hid R; have HB := Lib.hid (HB.out.trans (U.below HG10.out)); clear U R)
   | (guard_target = Go.wpList _ _ _ ((⟨some _, .load _ (.tmp 10), _, _, _, _⟩ : Go.Oper) :: _) _ _; refine step_load rfl _ rfl b10 rfl P2 HR10.out ?_)
   | (go_at_call 89; guard_target = Go.Calls _ _ #[_, Go.Value.int _ (m.f), _] _ _; refine (cs_free_any P2 (m.f) K _ HA2.out (by omega) (by omega) (HT.out.on HB.out)).mono ?_; rintro e w3 ⟨rfl, hb⟩; rw [HF1.out]; have HR10 := Lib.hid (HR10.out.later hb); have HB := Lib.hid (below_on HB.out hb); clear hb)
   | (go_at_call 89; guard_target = Go.Calls _ _ #[_, Go.Value.int _ (m.t), _] _ _; refine (cs_free_any P2 (m.t) R _ HA2.out (by omega) (by omega) (HT.out.on HB.out)).mono ?_; rintro e w3 ⟨rfl, hb⟩; rw [HF2.out]; have HR10 := Lib.hid (HR10.out.later hb); have HB := Lib.hid (below_on HB.out hb); clear hb)
   | (go_at_call 90; refine (cs_safe_any P2 m.f K _ HA2.out (by omega) (by omega) (HT.out.on HB.out)).mono ?_; rintro e w3 ⟨rfl, hb⟩; rw [HF3.out]; have HR10 := Lib.hid (HR10.out.later hb); have HB := Lib.hid (below_on HB.out hb); clear hb))
   go_ret
   exact ⟨by rw [HS.out]; rfl, HB.out⟩
theorem wrap_i8c {n : Int} (h : -128 ≤ n ∧ n ≤ 127) : IntKind.i8.wrap n = n := by
 exact IntWalk.i8_in n h
def NamL (m : Mv) (b : Bool) (w : World) (e : Ending) (w' : World) : Prop := e = .returned (.tuple #[.agg (mvA m), .bool b]) ∧ Below w.heap.size w w'
theorem kAt_rk {c n : Nat} (hc : c < 2) (hn : n < 2) : kAt (79 + c * 2 + n) = .i8 := by
 rcases (by omega : c = 0 ∨ c = 1) with rfl | rfl <;> rcases (by omega : n = 0 ∨ n = 1) with rfl | rfl <;> rfl
theorem homeK {c h : Int} (e : hmC c = h) (w : World) : Calls Tryz.prog 38 #[.int .u8 c] w (fun e w' => e = .returned (.int .i64 h) ∧ w = w') := e ▸ cs_home c w
theorem fndK {p : Nat → Int} {c k : Int} (e : kingZ p c = k) (w : World) (hp : BdR p) (hD : TabDb w) : Calls Tryz.prog 86 #[.agg (posA p), .int .u8 c, .int .u8 6] w (IntL k w) := e ▸ find_set p c 6 w hp hD
set_option maxRecDepth 100000 in
set_option maxHeartbeats 4000000 in
theorem cs_named (p : Nat → Int) (c n : Nat) (hc : c < 2) (hn : n < 2) (w : World) (hp : CsR p) (h78 : p 78 = (c : Int)) (hT : CsT w) : Calls Tryz.prog 43 #[.agg (posA p), .int .i64 (n : Int)] w (NamL (bif namC p n then mvC p n else mv0) (namC p n) w) := by
 have HP := Lib.hid hp.at_.bd
 have HT := Lib.hid hT
 have HC := Lib.hid h78
 have HC2 := Lib.hid hc
 have HN := Lib.hid hn
 obtain ⟨r, hr⟩ : ∃ r, flC p n = r := ⟨_, rfl⟩
 have hr' : p (79 + c * 2 + n) = r := by rw [← hr]; unfold flC; rw [h78, Int.toNat_natCast]
 have HRr := Lib.hid hr'
 have hrr : -128 ≤ r ∧ r ≤ 127 := by rw [← hr']; have := hp.rk (c * 2 + n) (by omega); rwa [show 79 + c * 2 + n = 79 + (c * 2 + n) by omega]
 obtain ⟨hm, hhm⟩ : ∃ hm, hmC (c : Int) = hm := ⟨_, rfl⟩
 obtain ⟨kz, hkz⟩ : ∃ kz, kingZ p (c : Int) = kz := ⟨_, rfl⟩
 have hkr : -1 ≤ kz ∧ kz ≤ 63 := by rw [← hkz]; exact king_rng _ _
 have hmr : 0 ≤ hm ∧ hm ≤ 56 := by rw [← hhm]; exact hmC_rng _
 have HHm := Lib.hid hhm
 have HKz := Lib.hid hkz
 have hmv : mvC p n = ⟨kz, hm + r, 0, 0, true⟩ := by unfold mvC; rw [h78, hkz, hhm, hr]
 have HMv := Lib.hid hmv
 obtain ⟨g3, hg3⟩ : ∃ g3, hasN (ofN p (p 78) 4) (hm + r) = g3 := ⟨_, rfl⟩
 obtain ⟨sd, hsd⟩ : ∃ sd, sdC (p 78) ⟨kz, hm + r, 0, 0, true⟩ = sd := ⟨_, rfl⟩
 have HHr := Lib.hid hg3
 have HSd := Lib.hid hsd
 have hnam : namC p n = ((decide (0 ≤ r) && decide (r < 8)) && (g3 && (sd == (n : Int)))) := by unfold namC flB; rw [hmv, hsd, hr, show hmC (p 78) = hm by rw [h78]; exact hhm, hg3]
 clear hp hT h78 hr hr' hhm hkz hmv hg3 hsd
 have HB := Lib.hid (Below.refl w.heap.size w)
 by_cases g1 : r < 0
 ·have q1 : decide (r < 0) = true := decide_eq_true g1
  have HS := Lib.hid (show namC p n = false by rw [hnam, decide_eq_false (show ¬ 0 ≤ r by omega)]; rfl)
  clear hnam g1
  go_enter Tryz.func43, Tryz.ntmps43
  go_wp2_with (first
   | (guard_target = Go.wpList _ _ _ ((⟨some 2, .box _ _, _, _, _, _⟩ : Go.Oper) :: _) _ _; refine step_box rfl _ rfl p rfl ?_; intro b2 w1 N R; have HG2 := Lib.hid (show w.heap.size ≤ b2 by have := HB.out.size; have := N.at_; omega); have HB := Lib.hid (below_on HB.out N.below); have HR2 := Lib.hid R; clear N R)
   | (guard_target = Go.wpList _ _ _ ((⟨some 4, .alloc _, _, _, _, _⟩ : Go.Oper) :: _) _ _; refine blk_alloc rfl 40 rfl (mvA mv0) zeroMv ?_; intro b4 wn N R; have HG4 := Lib.hid (show w.heap.size ≤ b4 by have := HB.out.size; have := N.at_; omega); have HY4 := Lib.hid (show b2 ≠ b4 from Nat.ne_of_lt (by have h1 := HR2.out.lt; have := N.at_; omega)); have HR2 := Lib.hid (HR2.out.later N.below); have HR4 := Lib.hid R; have HB := Lib.hid (below_on HB.out N.below); clear N R)
   | (guard_target = Go.wpList _ _ _ ((⟨some _, .load _ (.tmp 10), _, _, _, _⟩ : Go.Oper) :: _) _ _; refine step_get rfl 5 _ rfl b2 78 rfl Tryz.underlying5 rfl (.int .u8 (c : Int)) ?_ ?_; exact (HR2.out.cell 78 (by decide)).trans (by rw [HC.out]; rfl))
   | (guard_target = Go.wpList _ _ _ ((⟨some _, .load _ (.tmp 26), _, _, _, _⟩ : Go.Oper) :: _) _ _; refine step_get rfl 5 _ rfl b2 78 rfl Tryz.underlying5 rfl (.int .u8 (c : Int)) ?_ ?_; exact (HR2.out.cell 78 (by decide)).trans (by rw [HC.out]; rfl))
   | (guard_target = Go.wpList _ _ _ ((⟨some _, .load _ (.tmp 29), _, _, _, _⟩ : Go.Oper) :: _) _ _; refine step_get rfl 5 _ rfl b2 78 rfl Tryz.underlying5 rfl (.int .u8 (c : Int)) ?_ ?_; exact (HR2.out.cell 78 (by decide)).trans (by rw [HC.out]; rfl))
   | (guard_target = Go.wpList _ _ _ ((⟨some 16, .load _ (.tmp 15), _, _, _, _⟩ : Go.Oper) :: _) _ _; refine step_get rfl 26 _ rfl b2 (79 + c * 2 + n) rfl Tryz.underlying26 rfl (.int .i8 r) ?_ ?_; exact (HR2.out.cell (79 + c * 2 + n) (by omega)).trans (by rw [kAt_rk HC2.out HN.out, HRr.out]))
   | (guard_target = Go.wpList _ _ _ ((⟨some 24, .build _ _, _, _, _, _⟩ : Go.Oper) :: _) _ _; refine step_build (op := ⟨some 24, .build _ _, _, _, _, _⟩) rfl 40 _ rfl (mvA mv0) (by kernel_rfl) ?_)
   | (guard_target = Go.wpList _ _ _ ((⟨none, .store _ (.tmp 4) _, _, _, _, _⟩ : Go.Oper) :: _) _ _; refine blk_store rfl 40 _ _ rfl b4 rfl (mvA mv0) (mvA mv0) rfl HR4.out rfl (mv_one _) sizeMv ?_; intro wn U R; have HR4 := Lib.hid R; have HB := Lib.hid (HB.out.trans (U.below HG4.out)); clear U R))
  exact bodyPost_ret (results_cm2 rfl _ _ _ mv0 _ rfl rfl HR4.out) rfl ⟨by rw [HS.out]; rfl, HB.out⟩
 ·by_cases g2 : 8 ≤ r
  ·have q1 : decide (r < 0) = false := decide_eq_false g1
   have q2 : decide (8 ≤ r) = true := decide_eq_true g2
   have HS := Lib.hid (show namC p n = false by rw [hnam, decide_eq_false (show ¬ r < 8 by omega)]; simp)
   clear hnam g1 g2
   go_enter Tryz.func43, Tryz.ntmps43
   go_wp2_with (first
   | (guard_target = Go.wpList _ _ _ ((⟨some 2, .box _ _, _, _, _, _⟩ : Go.Oper) :: _) _ _; refine step_box rfl _ rfl p rfl ?_; intro b2 w1 N R; have HG2 := Lib.hid (show w.heap.size ≤ b2 by have := HB.out.size; have := N.at_; omega); have HB := Lib.hid (below_on HB.out N.below); have HR2 := Lib.hid R; clear N R)
   | (guard_target = Go.wpList _ _ _ ((⟨some 4, .alloc _, _, _, _, _⟩ : Go.Oper) :: _) _ _; refine blk_alloc rfl 40 rfl (mvA mv0) zeroMv ?_; intro b4 wn N R; have HG4 := Lib.hid (show w.heap.size ≤ b4 by have := HB.out.size; have := N.at_; omega); have HY4 := Lib.hid (show b2 ≠ b4 from Nat.ne_of_lt (by have h1 := HR2.out.lt; have := N.at_; omega)); have HR2 := Lib.hid (HR2.out.later N.below); have HR4 := Lib.hid R; have HB := Lib.hid (below_on HB.out N.below); clear N R)
   | (guard_target = Go.wpList _ _ _ ((⟨some _, .load _ (.tmp 10), _, _, _, _⟩ : Go.Oper) :: _) _ _; refine step_get rfl 5 _ rfl b2 78 rfl Tryz.underlying5 rfl (.int .u8 (c : Int)) ?_ ?_; exact (HR2.out.cell 78 (by decide)).trans (by rw [HC.out]; rfl))
   | (guard_target = Go.wpList _ _ _ ((⟨some _, .load _ (.tmp 26), _, _, _, _⟩ : Go.Oper) :: _) _ _; refine step_get rfl 5 _ rfl b2 78 rfl Tryz.underlying5 rfl (.int .u8 (c : Int)) ?_ ?_; exact (HR2.out.cell 78 (by decide)).trans (by rw [HC.out]; rfl))
   | (guard_target = Go.wpList _ _ _ ((⟨some _, .load _ (.tmp 29), _, _, _, _⟩ : Go.Oper) :: _) _ _; refine step_get rfl 5 _ rfl b2 78 rfl Tryz.underlying5 rfl (.int .u8 (c : Int)) ?_ ?_; exact (HR2.out.cell 78 (by decide)).trans (by rw [HC.out]; rfl))
   | (guard_target = Go.wpList _ _ _ ((⟨some 16, .load _ (.tmp 15), _, _, _, _⟩ : Go.Oper) :: _) _ _; refine step_get rfl 26 _ rfl b2 (79 + c * 2 + n) rfl Tryz.underlying26 rfl (.int .i8 r) ?_ ?_; exact (HR2.out.cell (79 + c * 2 + n) (by omega)).trans (by rw [kAt_rk HC2.out HN.out, HRr.out]))
   | (guard_target = Go.wpList _ _ _ ((⟨some 24, .build _ _, _, _, _, _⟩ : Go.Oper) :: _) _ _; refine step_build (op := ⟨some 24, .build _ _, _, _, _, _⟩) rfl 40 _ rfl (mvA mv0) (by kernel_rfl) ?_)
   | (guard_target = Go.wpList _ _ _ ((⟨none, .store _ (.tmp 4) _, _, _, _, _⟩ : Go.Oper) :: _) _ _; refine blk_store rfl 40 _ _ rfl b4 rfl (mvA mv0) (mvA mv0) rfl HR4.out rfl (mv_one _) sizeMv ?_; intro wn U R; have HR4 := Lib.hid R; have HB := Lib.hid (HB.out.trans (U.below HG4.out)); clear U R))
   exact bodyPost_ret (results_cm2 rfl _ _ _ mv0 _ rfl rfl HR4.out) rfl ⟨by rw [HS.out]; rfl, HB.out⟩
  ·have q1 : decide (r < 0) = false := decide_eq_false g1
   have q2 : decide (8 ≤ r) = false := decide_eq_false g2
   have hnam' : namC p n = (g3 && (sd == (n : Int))) := by rw [hnam, decide_eq_true (show 0 ≤ r by omega), decide_eq_true (show r < 8 by omega)]; rfl
   have hw1 : IntKind.i8.wrap kz = kz := wrap_i8c (by omega)
   have hw2 : IntKind.i8.wrap (hm + r) = hm + r := wrap_i8c (by omega)
   have HFm := Lib.hid (show FitV ⟨kz, hm + r, 0, 0, true⟩ from ⟨by show -128 ≤ kz ∧ kz ≤ 127; omega, by show -128 ≤ hm + r ∧ hm + r ≤ 127; omega, by show (0 : Int) ≤ 0 ∧ (0 : Int) ≤ 255; omega, by show (0 : Int) ≤ 0 ∧ (0 : Int) ≤ 255; omega⟩)
   have hr0 : 0 ≤ r ∧ r ≤ 7 := by omega
   clear hnam g1 g2 hrr
   go_enter Tryz.func43, Tryz.ntmps43
   go_wp2_with (first
   | (guard_target = Go.wpList _ _ _ ((⟨some 2, .box _ _, _, _, _, _⟩ : Go.Oper) :: _) _ _; refine step_box rfl _ rfl p rfl ?_; intro b2 w1 N R; have HG2 := Lib.hid (show w.heap.size ≤ b2 by have := HB.out.size; have := N.at_; omega); have HB := Lib.hid (below_on HB.out N.below); have HR2 := Lib.hid R; clear N R)
   | (guard_target = Go.wpList _ _ _ ((⟨some 4, .alloc _, _, _, _, _⟩ : Go.Oper) :: _) _ _; refine blk_alloc rfl 40 rfl (mvA mv0) zeroMv ?_; intro b4 wn N R; have HG4 := Lib.hid (show w.heap.size ≤ b4 by have := HB.out.size; have := N.at_; omega); have HY4 := Lib.hid (show b2 ≠ b4 from Nat.ne_of_lt (by have h1 := HR2.out.lt; have := N.at_; omega)); have HR2 := Lib.hid (HR2.out.later N.below); have HR4 := Lib.hid R; have HB := Lib.hid (below_on HB.out N.below); clear N R)
   | (guard_target = Go.wpList _ _ _ ((⟨some _, .load _ (.tmp 10), _, _, _, _⟩ : Go.Oper) :: _) _ _; refine step_get rfl 5 _ rfl b2 78 rfl Tryz.underlying5 rfl (.int .u8 (c : Int)) ?_ ?_; exact (HR2.out.cell 78 (by decide)).trans (by rw [HC.out]; rfl))
   | (guard_target = Go.wpList _ _ _ ((⟨some _, .load _ (.tmp 26), _, _, _, _⟩ : Go.Oper) :: _) _ _; refine step_get rfl 5 _ rfl b2 78 rfl Tryz.underlying5 rfl (.int .u8 (c : Int)) ?_ ?_; exact (HR2.out.cell 78 (by decide)).trans (by rw [HC.out]; rfl))
   | (guard_target = Go.wpList _ _ _ ((⟨some _, .load _ (.tmp 29), _, _, _, _⟩ : Go.Oper) :: _) _ _; refine step_get rfl 5 _ rfl b2 78 rfl Tryz.underlying5 rfl (.int .u8 (c : Int)) ?_ ?_; exact (HR2.out.cell 78 (by decide)).trans (by rw [HC.out]; rfl))
   | (guard_target = Go.wpList _ _ _ ((⟨some 16, .load _ (.tmp 15), _, _, _, _⟩ : Go.Oper) :: _) _ _; refine step_get rfl 26 _ rfl b2 (79 + c * 2 + n) rfl Tryz.underlying26 rfl (.int .i8 r) ?_ ?_; exact (HR2.out.cell (79 + c * 2 + n) (by omega)).trans (by rw [kAt_rk HC2.out HN.out, HRr.out])))
   refine late_begin 11 (by kernel_rfl) ?_
   refine ltk 0 (by kernel_rfl) (fun _ _ d _ _ h => by cases d <;> exact h) (fun o ho => ?_)
   simp only [qa, qb, qc, qd] at ho; subst ho
   refine ⟨.agg (posA p), Or.inl ⟨by kernel_rfl, fun w' hl => Or.inl (run_posC _ rfl b2 rfl p (HR2.out.later hl))⟩, ?_⟩
   simp only [Act.put, pa, pb, pc]
   refine ltk 1 (by kernel_rfl) (fun _ _ d _ _ h => by cases d <;> exact h) (fun o ho => ?_)
   simp only [qa, qb, qc, qd] at ho; subst ho
   apply Exists.intro
   refine ⟨Or.inl ⟨by kernel_rfl, fun w' hl => Or.inl ?_⟩, ?_⟩
   ·(go_simp; try with_reducible rfl)
   simp only [Act.put, pa, pb, pc]
   refine ltk 2 (by kernel_rfl) (fun _ _ d _ _ h => by cases d <;> exact h) (fun o ho => ?_)
   simp only [qa, qb, qc, qd] at ho; subst ho
   refine ⟨.int .u8 (c : Int), Or.inl ⟨by kernel_rfl, fun w' hl => Or.inl (run_get 5 _ rfl b2 78 rfl Tryz.underlying5 rfl (.int .u8 (c : Int)) (((HR2.out.later hl).cell 78 (by decide)).trans (by rw [HC.out]; rfl)))⟩, ?_⟩
   simp only [Act.put, pa, pb, pc]
   refine ltk 4 (by kernel_rfl) (fun _ _ d _ _ h => by cases d <;> exact h) (fun o ho => ?_)
   simp only [qa, qb, qc, qd] at ho; subst ho
   apply Exists.intro
   refine ⟨Or.inl ⟨by kernel_rfl, fun w' hl => Or.inl ?_⟩, ?_⟩
   ·(go_simp; try with_reducible rfl)
   simp only [Act.put, pa, pb, pc]
   refine ltk 5 (by kernel_rfl) (fun _ _ d _ _ h => by cases d <;> exact h) (fun o ho => ?_)
   simp only [qa, qb, qc, qd] at ho; subst ho
   refine ⟨.int .u8 (c : Int), Or.inl ⟨by kernel_rfl, fun w' hl => Or.inl (run_get 5 _ rfl b2 78 rfl Tryz.underlying5 rfl (.int .u8 (c : Int)) (((HR2.out.later hl).cell 78 (by decide)).trans (by rw [HC.out]; rfl)))⟩, ?_⟩
   simp only [Act.put, pa, pb, pc]
   refine ltk 7 (by kernel_rfl) (fun _ _ d _ _ h => by cases d <;> exact h) (fun o ho => ?_)
   simp only [qa, qb, qc, qd] at ho; subst ho
   apply Exists.intro
   refine ⟨Or.inl ⟨by kernel_rfl, fun w' hl => Or.inl ?_⟩, ?_⟩
   ·(go_simp; try with_reducible rfl)
   simp only [Act.put, pa, pb, pc]
   refine late_one 3 (by kernel_rfl) (by kernel_rfl) (fun o ho => ?_)
   simp only [qa, qb, qc, qd] at ho; subst ho
   refine ⟨by kernel_rfl, fun wn hl K hK => ?_⟩
   have HR2 := Lib.hid (HR2.out.later hl); have HR4 := Lib.hid (HR4.out.later hl); have HB := Lib.hid (below_on HB.out hl); clear hl
   refine wp_enter _ _ (by go_simp; exact ⟨rfl, rfl⟩) ?_
   refine (fndK HKz.out _ HP.out (HT.out.on HB.out).db).mono ?_; rintro e wm ⟨rfl, hb⟩; refine ⟨_, rfl, ?_⟩
   refine hK.out _ _ hb ?_
   have HR2 := Lib.hid (HR2.out.later hb); have HR4 := Lib.hid (HR4.out.later hb); have HB := Lib.hid (below_on HB.out hb); clear hb
   clear hK K
   simp only [Act.put, pa, pb, pc]
   refine late_one 6 (by kernel_rfl) (by kernel_rfl) (fun o ho => ?_)
   simp only [qa, qb, qc, qd] at ho; subst ho
   refine ⟨by kernel_rfl, fun wn hl K hK => ?_⟩
   have HR2 := Lib.hid (HR2.out.later hl); have HR4 := Lib.hid (HR4.out.later hl); have HB := Lib.hid (below_on HB.out hl); clear hl
   refine wp_enter _ _ (by go_simp; exact ⟨rfl, rfl⟩) ?_
   refine (homeK HHm.out _).mono ?_; rintro e wm ⟨rfl, rfl⟩; refine ⟨_, rfl, ?_⟩
   refine hK.out _ _ (Later.refl _) ?_
   clear hK K
   simp only [Act.put, pa, pb, pc]
   refine ltk 8 (by kernel_rfl) (fun _ _ d _ _ h => by cases d <;> exact h) (fun o ho => ?_)
   simp only [qa, qb, qc, qd] at ho; subst ho
   refine ⟨.int .i64 (hm + r), Or.inl ⟨by kernel_rfl, fun w' hl => Or.inl ?_⟩, ?_⟩
   ·(go_simp <;> (rw [IntKind.wrap_i64]; omega))
   simp only [Act.put, pa, pb, pc]
   refine ltk 9 (by kernel_rfl) (fun _ _ d _ _ h => by cases d <;> exact h) (fun o ho => ?_)
   simp only [qa, qb, qc, qd] at ho; subst ho
   apply Exists.intro
   refine ⟨Or.inl ⟨by kernel_rfl, fun w' hl => Or.inl ?_⟩, ?_⟩
   ·(go_simp; try with_reducible rfl)
   simp only [Act.put, pa, pb, pc]
   refine ltk 10 (by kernel_rfl) (fun _ _ d _ _ h => by cases d <;> exact h) (fun o ho => ?_)
   simp only [qa, qb, qc, qd] at ho; subst ho
   apply Exists.intro
   refine ⟨Or.inl ⟨by kernel_rfl, fun w' hl => Or.inl ?_⟩, ?_⟩
   ·(go_simp; try with_reducible rfl)
   simp only [Act.put, pa, pb, pc]
   refine late_end (by kernel_rfl) (fun wn hl => ?_)
   have HR2 := Lib.hid (HR2.out.later hl); have HR4 := Lib.hid (HR4.out.later hl); have HB := Lib.hid (below_on HB.out hl); clear hl
   cases g3
   ·have HS := Lib.hid (show namC p n = false by rw [hnam']; rfl)
    clear hnam'
    go_wp2_with (first
     | (guard_target = Go.wpList _ _ _ ((⟨some 38, .build _ _, _, _, _, _⟩ : Go.Oper) :: _) _ _; refine step_build (op := ⟨some 38, .build _ _, _, _, _, _⟩) rfl 40 _ rfl (mvA ⟨kz, hm + r, 0, 0, true⟩) (by kernel_rfl) ?_)
     | (guard_target = Go.wpList _ _ _ ((⟨some 9, .alloc _, _, _, _, _⟩ : Go.Oper) :: _) _ _; refine blk_alloc rfl 40 rfl (mvA mv0) zeroMv ?_; intro b9 wn N R; have HG9 := Lib.hid (show w.heap.size ≤ b9 by have := HB.out.size; have := N.at_; omega); have HY9 := Lib.hid (show b2 ≠ b9 from Nat.ne_of_lt (by have h1 := HR2.out.lt; have := N.at_; omega)); have HZ9 := Lib.hid (show b4 ≠ b9 from Nat.ne_of_lt (by have h1 := Blk.lt HR4.out; have := N.at_; omega)); have HR2 := Lib.hid (HR2.out.later N.below); have HR4 := Lib.hid (HR4.out.later N.below); have HR9 := Lib.hid R; have HB := Lib.hid (below_on HB.out N.below); clear N R)
     | (guard_target = Go.wpList _ _ _ ((⟨none, .store _ (.tmp 9) _, _, _, _, _⟩ : Go.Oper) :: _) _ _; refine blk_store rfl 40 _ _ rfl b9 rfl (mvA mv0) (mvA ⟨kz, hm + r, 0, 0, true⟩) rfl HR9.out rfl (mv_one _) sizeMv ?_; intro wn U R; have HR2 := Lib.hid (HR2.out.apart U HY9.out); have HR4 := Lib.hid (HR4.out.apart U HZ9.out); have HR9 := Lib.hid R; have HB := Lib.hid (HB.out.trans (U.below HG9.out)); clear U R)
     | (guard_target = Go.wpList _ _ _ ((⟨some _, .load _ (.tmp 2), _, _, _, _⟩ : Go.Oper) :: _) _ _; refine step_load rfl _ rfl b2 rfl p HR2.out ?_)
     | (go_at_call 87; refine (cs_rook p (hm + r) _ HP.out).mono ?_; rintro e w3 ⟨rfl, hb⟩; rw [HHr.out]; have HR2 := Lib.hid (HR2.out.later hb); have HR4 := Lib.hid (HR4.out.later hb); have HR9 := Lib.hid (HR9.out.later hb); have HB := Lib.hid (below_on HB.out hb); clear hb)
     | (guard_target = Go.wpList _ _ _ ((⟨some _, .load _ (.tmp 9), _, _, _, _⟩ : Go.Oper) :: _) _ _; refine blk_load rfl 40 _ rfl b9 rfl (mvA ⟨kz, hm + r, 0, 0, true⟩) HR9.out _ Tryz.underlying40 rfl sizeMv ?_)
     | (go_at_call 37; refine (cs_side p ⟨kz, hm + r, 0, 0, true⟩ _ HFm.out).mono ?_; rintro e w3 ⟨rfl, hb⟩; rw [HSd.out]; have HR2 := Lib.hid (HR2.out.later hb); have HR4 := Lib.hid (HR4.out.later hb); have HR9 := Lib.hid (HR9.out.later hb); have HB := Lib.hid (below_on HB.out hb); clear hb)
     | (guard_target = Go.wpList _ _ _ ((⟨some 50, .build _ _, _, _, _, _⟩ : Go.Oper) :: _) _ _; refine step_build (op := ⟨some 50, .build _ _, _, _, _, _⟩) rfl 40 _ rfl (mvA mv0) (by kernel_rfl) ?_)
     | (guard_target = Go.wpList _ _ _ ((⟨none, .store _ (.tmp 4) _, _, _, _, _⟩ : Go.Oper) :: _) _ _; refine blk_store rfl 40 _ _ rfl b4 rfl (mvA mv0) (mvA mv0) rfl HR4.out rfl (mv_one _) sizeMv ?_; intro wn U R; have HR4 := Lib.hid R; have HB := Lib.hid (HB.out.trans (U.below HG4.out)); clear U R)
     | (guard_target = Go.wpList _ _ _ ((⟨none, .store _ (.tmp 4) _, _, _, _, _⟩ : Go.Oper) :: _) _ _; refine blk_store rfl 40 _ _ rfl b4 rfl (mvA mv0) (mvA ⟨kz, hm + r, 0, 0, true⟩) rfl HR4.out rfl (mv_one _) sizeMv ?_; intro wn U R; have HR4 := Lib.hid R; have HB := Lib.hid (HB.out.trans (U.below HG4.out)); clear U R))
    exact bodyPost_ret (results_cm2 rfl _ _ _ mv0 _ rfl rfl HR4.out) rfl ⟨by rw [HS.out]; rfl, HB.out⟩
   ·cases q3 : (sd == (n : Int))
    ·have q4 : (sd != (n : Int)) = true := by rw [bne, q3]; rfl
     have HS := Lib.hid (show namC p n = false by rw [hnam', q3]; rfl)
     clear hnam' q3
     go_wp2_with (first
      | (guard_target = Go.wpList _ _ _ ((⟨some 38, .build _ _, _, _, _, _⟩ : Go.Oper) :: _) _ _; refine step_build (op := ⟨some 38, .build _ _, _, _, _, _⟩) rfl 40 _ rfl (mvA ⟨kz, hm + r, 0, 0, true⟩) (by kernel_rfl) ?_)
      | (guard_target = Go.wpList _ _ _ ((⟨some 9, .alloc _, _, _, _, _⟩ : Go.Oper) :: _) _ _; refine blk_alloc rfl 40 rfl (mvA mv0) zeroMv ?_; intro b9 wn N R; have HG9 := Lib.hid (show w.heap.size ≤ b9 by have := HB.out.size; have := N.at_; omega); have HY9 := Lib.hid (show b2 ≠ b9 from Nat.ne_of_lt (by have h1 := HR2.out.lt; have := N.at_; omega)); have HZ9 := Lib.hid (show b4 ≠ b9 from Nat.ne_of_lt (by have h1 := Blk.lt HR4.out; have := N.at_; omega)); have HR2 := Lib.hid (HR2.out.later N.below); have HR4 := Lib.hid (HR4.out.later N.below); have HR9 := Lib.hid R; have HB := Lib.hid (below_on HB.out N.below); clear N R)
      | (guard_target = Go.wpList _ _ _ ((⟨none, .store _ (.tmp 9) _, _, _, _, _⟩ : Go.Oper) :: _) _ _; refine blk_store rfl 40 _ _ rfl b9 rfl (mvA mv0) (mvA ⟨kz, hm + r, 0, 0, true⟩) rfl HR9.out rfl (mv_one _) sizeMv ?_; intro wn U R; have HR2 := Lib.hid (HR2.out.apart U HY9.out); have HR4 := Lib.hid (HR4.out.apart U HZ9.out); have HR9 := Lib.hid R; have HB := Lib.hid (HB.out.trans (U.below HG9.out)); clear U R)
      | (guard_target = Go.wpList _ _ _ ((⟨some _, .load _ (.tmp 2), _, _, _, _⟩ : Go.Oper) :: _) _ _; refine step_load rfl _ rfl b2 rfl p HR2.out ?_)
      | (go_at_call 87; refine (cs_rook p (hm + r) _ HP.out).mono ?_; rintro e w3 ⟨rfl, hb⟩; rw [HHr.out]; have HR2 := Lib.hid (HR2.out.later hb); have HR4 := Lib.hid (HR4.out.later hb); have HR9 := Lib.hid (HR9.out.later hb); have HB := Lib.hid (below_on HB.out hb); clear hb)
      | (guard_target = Go.wpList _ _ _ ((⟨some _, .load _ (.tmp 9), _, _, _, _⟩ : Go.Oper) :: _) _ _; refine blk_load rfl 40 _ rfl b9 rfl (mvA ⟨kz, hm + r, 0, 0, true⟩) HR9.out _ Tryz.underlying40 rfl sizeMv ?_)
      | (go_at_call 37; refine (cs_side p ⟨kz, hm + r, 0, 0, true⟩ _ HFm.out).mono ?_; rintro e w3 ⟨rfl, hb⟩; rw [HSd.out]; have HR2 := Lib.hid (HR2.out.later hb); have HR4 := Lib.hid (HR4.out.later hb); have HR9 := Lib.hid (HR9.out.later hb); have HB := Lib.hid (below_on HB.out hb); clear hb)
      | (guard_target = Go.wpList _ _ _ ((⟨some 50, .build _ _, _, _, _, _⟩ : Go.Oper) :: _) _ _; refine step_build (op := ⟨some 50, .build _ _, _, _, _, _⟩) rfl 40 _ rfl (mvA mv0) (by kernel_rfl) ?_)
      | (guard_target = Go.wpList _ _ _ ((⟨none, .store _ (.tmp 4) _, _, _, _, _⟩ : Go.Oper) :: _) _ _; refine blk_store rfl 40 _ _ rfl b4 rfl (mvA mv0) (mvA mv0) rfl HR4.out rfl (mv_one _) sizeMv ?_; intro wn U R; have HR4 := Lib.hid R; have HB := Lib.hid (HB.out.trans (U.below HG4.out)); clear U R)
      | (guard_target = Go.wpList _ _ _ ((⟨none, .store _ (.tmp 4) _, _, _, _, _⟩ : Go.Oper) :: _) _ _; refine blk_store rfl 40 _ _ rfl b4 rfl (mvA mv0) (mvA ⟨kz, hm + r, 0, 0, true⟩) rfl HR4.out rfl (mv_one _) sizeMv ?_; intro wn U R; have HR4 := Lib.hid R; have HB := Lib.hid (HB.out.trans (U.below HG4.out)); clear U R))
     exact bodyPost_ret (results_cm2 rfl _ _ _ mv0 _ rfl rfl HR4.out) rfl ⟨by rw [HS.out]; rfl, HB.out⟩
    ·have q4 : (sd != (n : Int)) = false := by rw [bne, q3]; rfl
     have HS := Lib.hid (show namC p n = true by rw [hnam', q3]; rfl)
     clear hnam' q3
     go_wp2_with (first
      | (guard_target = Go.wpList _ _ _ ((⟨some 38, .build _ _, _, _, _, _⟩ : Go.Oper) :: _) _ _; refine step_build (op := ⟨some 38, .build _ _, _, _, _, _⟩) rfl 40 _ rfl (mvA ⟨kz, hm + r, 0, 0, true⟩) (by kernel_rfl) ?_)
      | (guard_target = Go.wpList _ _ _ ((⟨some 9, .alloc _, _, _, _, _⟩ : Go.Oper) :: _) _ _; refine blk_alloc rfl 40 rfl (mvA mv0) zeroMv ?_; intro b9 wn N R; have HG9 := Lib.hid (show w.heap.size ≤ b9 by have := HB.out.size; have := N.at_; omega); have HY9 := Lib.hid (show b2 ≠ b9 from Nat.ne_of_lt (by have h1 := HR2.out.lt; have := N.at_; omega)); have HZ9 := Lib.hid (show b4 ≠ b9 from Nat.ne_of_lt (by have h1 := Blk.lt HR4.out; have := N.at_; omega)); have HR2 := Lib.hid (HR2.out.later N.below); have HR4 := Lib.hid (HR4.out.later N.below); have HR9 := Lib.hid R; have HB := Lib.hid (below_on HB.out N.below); clear N R)
      | (guard_target = Go.wpList _ _ _ ((⟨none, .store _ (.tmp 9) _, _, _, _, _⟩ : Go.Oper) :: _) _ _; refine blk_store rfl 40 _ _ rfl b9 rfl (mvA mv0) (mvA ⟨kz, hm + r, 0, 0, true⟩) rfl HR9.out rfl (mv_one _) sizeMv ?_; intro wn U R; have HR2 := Lib.hid (HR2.out.apart U HY9.out); have HR4 := Lib.hid (HR4.out.apart U HZ9.out); have HR9 := Lib.hid R; have HB := Lib.hid (HB.out.trans (U.below HG9.out)); clear U R)
      | (guard_target = Go.wpList _ _ _ ((⟨some _, .load _ (.tmp 2), _, _, _, _⟩ : Go.Oper) :: _) _ _; refine step_load rfl _ rfl b2 rfl p HR2.out ?_)
      | (go_at_call 87; refine (cs_rook p (hm + r) _ HP.out).mono ?_; rintro e w3 ⟨rfl, hb⟩; rw [HHr.out]; have HR2 := Lib.hid (HR2.out.later hb); have HR4 := Lib.hid (HR4.out.later hb); have HR9 := Lib.hid (HR9.out.later hb); have HB := Lib.hid (below_on HB.out hb); clear hb)
      | (guard_target = Go.wpList _ _ _ ((⟨some _, .load _ (.tmp 9), _, _, _, _⟩ : Go.Oper) :: _) _ _; refine blk_load rfl 40 _ rfl b9 rfl (mvA ⟨kz, hm + r, 0, 0, true⟩) HR9.out _ Tryz.underlying40 rfl sizeMv ?_)
      | (go_at_call 37; refine (cs_side p ⟨kz, hm + r, 0, 0, true⟩ _ HFm.out).mono ?_; rintro e w3 ⟨rfl, hb⟩; rw [HSd.out]; have HR2 := Lib.hid (HR2.out.later hb); have HR4 := Lib.hid (HR4.out.later hb); have HR9 := Lib.hid (HR9.out.later hb); have HB := Lib.hid (below_on HB.out hb); clear hb)
      | (guard_target = Go.wpList _ _ _ ((⟨some 50, .build _ _, _, _, _, _⟩ : Go.Oper) :: _) _ _; refine step_build (op := ⟨some 50, .build _ _, _, _, _, _⟩) rfl 40 _ rfl (mvA mv0) (by kernel_rfl) ?_)
      | (guard_target = Go.wpList _ _ _ ((⟨none, .store _ (.tmp 4) _, _, _, _, _⟩ : Go.Oper) :: _) _ _; refine blk_store rfl 40 _ _ rfl b4 rfl (mvA mv0) (mvA mv0) rfl HR4.out rfl (mv_one _) sizeMv ?_; intro wn U R; have HR4 := Lib.hid R; have HB := Lib.hid (HB.out.trans (U.below HG4.out)); clear U R)
      | (guard_target = Go.wpList _ _ _ ((⟨none, .store _ (.tmp 4) _, _, _, _, _⟩ : Go.Oper) :: _) _ _; refine blk_store rfl 40 _ _ rfl b4 rfl (mvA mv0) (mvA ⟨kz, hm + r, 0, 0, true⟩) rfl HR4.out rfl (mv_one _) sizeMv ?_; intro wn U R; have HR4 := Lib.hid R; have HB := Lib.hid (HB.out.trans (U.below HG4.out)); clear U R))
     exact bodyPost_ret (results_cm2 rfl _ _ _ ⟨kz, hm + r, 0, 0, true⟩ _ rfl rfl HR4.out) rfl ⟨by rw [HS.out, HMv.out]; rfl, HB.out⟩
end Go.Proofs.YtidgfadbdgheiaaGreatDoor
