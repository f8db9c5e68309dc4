/-
  Layer 13's PseudoBack.
-/
import Derived.Test.YtfdheeogpndklaaDoorPsN
namespace Go.Proofs.YtfdheeogpndklaaDoor
open Go.RowKit Go.Shelf
set_option linter.unusedVariables false
set_option linter.unusedSimpArgs false
theorem step_mvK {ops : Array Oper} {rest : List Oper} {op : Oper} {a : Act} {w : World} {Q : Exit → Act → World → Prop} (hw : Region.wanted op (yielded ops a.tmps) = true) (x : Operand) (ho : op.op = .load 36 x) (g i off : Nat) (hx : a.eval x = .pointer (some ⟨g, off, none⟩)) (hi : off = 5 * i) (m : Pm) (hr : w.rangeAt g (5 * i) (pmA m).toList)
    (h : wpList Tryd.prog ops Q rest (a.put op.dst (.agg (pmA m))) w) : wpList Tryd.prog ops Q (op :: rest) a w := by
  subst hi
  exact wpList_want hw fun _ hK => wp_load_mid 36 x ho g (5 * i) hx (pmA m).toList _ hr Tryd.underlying36 rfl sizePm (hK _ _ h)
theorem Pms.cell {L : List Pm} {g : Nat} {w : World} (h : Pms L (some ⟨g, 0, none⟩) w) {i : Nat} {m : Pm} (hm : L[i]? = some m) (j off : Nat) (hj : j < 5) (ho : off = i * 5 + j) : w.cell? ⟨g, off, none⟩ = (pmA m)[j]? := by
  subst ho
  have e : i * 5 + j = 5 * i + j := by omega
  have hs : j < (pmA m).toList.length := by show j < 5; exact hj
  have := h.get hm j _ (List.getElem?_eq_getElem hs)
  rw [e, this, ← List.getElem?_eq_getElem hs]; simp
theorem fit_all {p : Nat → Int} {m : Pm} (h : m ∈ allL p) : FitV (pmM m) := by
  unfold allL at h
  obtain ⟨a, _, h⟩ := List.mem_flatMap.1 h
  exact fit_pm h
theorem any_next {α : Type} {f : α → Bool} {L : List α} {i : Nat} {m : α} (h : L[i]? = some m) : (L.take (i + 1)).any f = ((L.take i).any f || f m) := by
  rw [List.take_add_one, h, List.any_append]; simp
theorem any_zero {α : Type} (f : α → Bool) (L : List α) : (L.take 0).any f = false := rfl
theorem any_len {α : Type} {f : α → Bool} {L : List α} {m : α} (h : m ∈ L) (hf : f m = true) : (L.take L.length).any f = true := by
  rw [List.take_length, List.any_eq_true]; exact ⟨m, h, hf⟩
theorem psr_upd {p : Nat → Int} (h : PsR p) {i : Nat} (hi : i < 64) {v : Int} (hv : 0 ≤ v ∧ v ≤ 255) : PsR (upd p (1 + i) v) := by
  refine ⟨fun j hj => ?_, by rw [upd_other _ _ _ _ (by omega)]; exact h.var, by rw [upd_other _ _ _ _ (by omega)]; exact h.turn, by rw [upd_other _ _ _ _ (by omega)]; exact h.pass⟩
  by_cases e : j = i
  · subst e; rw [upd_same]; exact hv
  · rw [upd_other _ _ _ _ (by omega)]; exact h.bd j hj
theorem pm_mv (f : Int) (t k : Nat) : mvE (pmM ⟨f, t, k⟩) ⟨f, (t : Int), (k : Int), 0, false⟩ = true := mvE_true.2 rfl
set_option maxRecDepth 100000 in
set_option maxHeartbeats 8000000 in
theorem psBack_any (p : Nat → Int) (w : World) (hp : PsR p) (hT : PsT w) (hK : TabKn w) : Calls Tryd.prog 4 #[.agg (posA p)] w (BoL true w) := by
  have HF := Lib.hid hp
  have HT := Lib.hid hT
  have HK := Lib.hid hK
  clear hp hT hK
  have HB := Lib.hid (Below.refl w.heap.size w)
  cases hL : lawQ p
  · have HQ := Lib.hid hL
    clear hL
    go_enter Tryd.func4, Tryd.ntmps4
    go_wp2_with (first
      | (guard_target = Go.wpList _ _ _ ((⟨some 1, .box _ _, _, _, _, _⟩ : Go.Oper) :: _) _ _; refine step_box rfl _ rfl p rfl ?_; intro b1 w1 N R; have HG1 := Lib.hid (show w.heap.size ≤ b1 by have := HB.out.size; have := N.at_; omega); have HB := Lib.hid (below_on HB.out N.below); have HR1 := Lib.hid R; clear N R)
      | (guard_target = Go.wpList _ _ _ ((⟨some _, .load _ (.tmp 1), _, _, _, _⟩ : Go.Oper) :: _) _ _; refine step_load rfl _ rfl b1 rfl p HR1.out ?_)
      | (go_at_call 11; refine (ps_lawful p _ HF.out).mono ?_; rintro e w3 ⟨rfl, hb⟩; rw [HQ.out]; have HR1 := Lib.hid (HR1.out.later hb); have HB := Lib.hid (below_on HB.out hb); clear hb)
      | (go_at_call 10; refine (ps_awake _ (HT.out.on HB.out) (HK.out.on HB.out)).mono ?_; rintro e w4 ⟨rfl, hb⟩; have HB := Lib.hid (below_on HB.out hb); clear hb))
    go_ret
    exact ⟨rfl, HB.out⟩
  · have HQ := Lib.hid hL
    obtain ⟨L, HL⟩ : ∃ L, Hid (allL p = L) := ⟨_, Lib.hid rfl⟩
    have HM := Lib.hid (show ∀ (i : Nat) (m : Pm), L[i]? = some m → OwnM p m by rw [← HL.out]; exact fun i m h => all_own HF.out hL (List.mem_of_getElem? h))
    have HBK := Lib.hid (show ∀ (i : Nat) (m : Pm) (a : Nat), L[i]? = some m → m.f = (a : Int) → p (1 + a) % 8 ≠ 1 → p (1 + m.t) = 0 → (⟨(m.t : Int), a, 0⟩ : Pm) ∈ allL (upd (upd p (1 + a) 0) (1 + m.t) (p (1 + a))) by rw [← HL.out]; exact fun i m a h e h1 h2 => back_all hL HF.out.turn.1 (List.mem_of_getElem? h) e h1 h2)
    have HZ := Lib.hid (show L.length ≤ 262144 by rw [← HL.out]; exact all_len p)
    clear hL
    go_enter Tryd.func4, Tryd.ntmps4
    go_wp2_with (first
      | (guard_target = Go.wpList _ _ _ ((⟨some 1, .box _ _, _, _, _, _⟩ : Go.Oper) :: _) _ _; refine step_box rfl _ rfl p rfl ?_; intro b1 w1 N R; have HG1 := Lib.hid (show w.heap.size ≤ b1 by have := HB.out.size; have := N.at_; omega); have HB := Lib.hid (below_on HB.out N.below); have HR1 := Lib.hid R; clear N R)
      | (guard_target = Go.wpList _ _ _ ((⟨some _, .load _ (.tmp 1), _, _, _, _⟩ : Go.Oper) :: _) _ _; refine step_load rfl _ rfl b1 rfl p HR1.out ?_)
      | (go_at_call 11; refine (ps_lawful p _ HF.out).mono ?_; rintro e w3 ⟨rfl, hb⟩; rw [HQ.out]; have HR1 := Lib.hid (HR1.out.later hb); have HB := Lib.hid (below_on HB.out hb); clear hb)
      | (go_at_call 7; guard_target = Go.Calls _ _ #[Go.Value.agg (posA p)] _ _; refine (list_ps p _ HF.out (HT.out.on HB.out)).mono ?_; rintro e w5 ⟨v, rfl, hv, hb⟩; rw [HL.out] at hv; obtain ⟨a3, c3, rfl, hE⟩ := pms_of hv; have HEn := Lib.hid hE; have HR1 := Lib.hid (HR1.out.later hb); have HB := Lib.hid (below_on HB.out hb); have HE := HEn; clear hE hv hb HEn))
    go_loopw [4] (fun i wr => ∃ k : Nat, k ≤ L.length ∧ i = .int .i64 (k : Int) ∧ Row wr b1 p ∧ Pms L a3 wr ∧ Below w.heap.size w wr) (fun i _ => L.length - (intOf i).toNat)
    case atStart => exact ⟨0, by omega, rfl, HR1.out, HE.out, HB.out⟩
    case round =>
      clear HR1 HE HB
      obtain ⟨k, hk, rfl, hr1, he, hb⟩ := hrel
      have HR1 := Lib.hid hr1
      have HE := Lib.hid he
      have HB := Lib.hid hb
      clear hr1 he hb
      by_cases hlt : k < L.length
      · obtain ⟨m, hm⟩ : ∃ m, L[k]? = some m := ⟨_, List.getElem?_eq_getElem hlt⟩
        obtain ⟨g3, rfl, _⟩ := HE.out.at hm
        have HX := Lib.hid hm
        obtain ⟨⟨a, ha, hf, hx0, hxc, hpk⟩, ht, hto⟩ := HM.out k m hm
        have HBm := Lib.hid (HBK.out k m a hm hf)
        obtain ⟨f, t, q⟩ := m
        obtain rfl : f = (a : Int) := hf
        have ht : t < 64 := ht
        have hx1 := HF.out.bd a ha
        have hy1 := HF.out.bd t ht
        have hw0 : (k : Int) < 262144 := by have := HZ.out; omega
        have hw2 : (k : Int) + 1 ≤ 262144 := by omega
        clear hm hx0 hxc hpk hto
        go_wp2_with fail
        refine late_begin 12 (by kernel_rfl) ?_
        refine ltk 0 (by kernel_rfl) (fun _ _ d _ _ h => by cases d <;> exact h) (fun o ho => ?_)
        simp only [qa, qb, qc, qd] at ho; subst ho
        apply Exists.intro
        refine ⟨Or.inl ⟨by kernel_rfl, fun w' hl => Or.inl ?_⟩, ?_⟩
        · (go_simp; try with_reducible rfl)
        simp only [Act.put, pa, pb, pc]
        refine ltk 1 (by kernel_rfl) (fun _ _ d _ _ h => by cases d <;> exact h) (fun o ho => ?_)
        simp only [qa, qb, qc, qd] at ho; subst ho
        apply Exists.intro
        refine ⟨Or.inl ⟨by kernel_rfl, fun w' hl => Or.inl ?_⟩, ?_⟩
        · (go_simp; try with_reducible rfl)
        simp only [Act.put, pa, pb, pc]
        refine ltk 2 (by kernel_rfl) (fun _ _ d _ _ h => by cases d <;> exact h) (fun o ho => ?_)
        simp only [qa, qb, qc, qd] at ho; subst ho
        refine ⟨.pointer (some ⟨g3, k * 5, none⟩), Or.inl ⟨by kernel_rfl, fun w' hl => Or.inl ?_⟩, ?_⟩
        · (go_simp <;> (intro hbad; omega))
        simp only [Act.put, pa, pb, pc]
        refine ltk 3 (by kernel_rfl) (fun _ _ d _ _ h => by cases d <;> exact h) (fun o ho => ?_)
        simp only [qa, qb, qc, qd] at ho; subst ho
        apply Exists.intro
        refine ⟨Or.inl ⟨by kernel_rfl, fun w' hl => Or.inl ?_⟩, ?_⟩
        · (go_simp; try with_reducible rfl)
        simp only [Act.put, pa, pb, pc]
        refine ltk 4 (by kernel_rfl) (fun _ _ d _ _ h => by cases d <;> exact h) (fun o ho => ?_)
        simp only [qa, qb, qc, qd] at ho; subst ho
        refine ⟨.int .i8 (a : Int), Or.inl ⟨by kernel_rfl, fun w' hl => Or.inl (run_get 26 _ rfl g3 (k * 5 + 0) rfl Tryd.underlying26 rfl (.int .i8 (a : Int)) ((Pms.cell (HE.out.later hl) HX.out 0 _ (by decide) (by omega)).trans rfl))⟩, ?_⟩
        simp only [Act.put, pa, pb, pc]
        refine ltk 5 (by kernel_rfl) (fun _ _ d _ _ h => by cases d <;> exact h) (fun o ho => ?_)
        simp only [qa, qb, qc, qd] at ho; subst ho
        apply Exists.intro
        refine ⟨Or.inl ⟨by kernel_rfl, fun w' hl => Or.inl ?_⟩, ?_⟩
        · (go_simp; try with_reducible rfl)
        simp only [Act.put, pa, pb, pc]
        refine ltk 6 (by kernel_rfl) (fun _ _ d _ _ h => by cases d <;> exact h) (fun o ho => ?_)
        simp only [qa, qb, qc, qd] at ho; subst ho
        apply Exists.intro
        refine ⟨Or.inl ⟨by kernel_rfl, fun w' hl => Or.inl ?_⟩, ?_⟩
        · (go_simp; try with_reducible rfl)
        simp only [Act.put, pa, pb, pc]
        refine ltk 7 (by kernel_rfl) (fun _ _ d _ _ h => by cases d <;> exact h) (fun o ho => ?_)
        simp only [qa, qb, qc, qd] at ho; subst ho
        refine ⟨.pointer (some ⟨g3, k * 5, none⟩), Or.inl ⟨by kernel_rfl, fun w' hl => Or.inl ?_⟩, ?_⟩
        · (go_simp <;> (intro hbad; omega))
        simp only [Act.put, pa, pb, pc]
        refine ltk 8 (by kernel_rfl) (fun _ _ d _ _ h => by cases d <;> exact h) (fun o ho => ?_)
        simp only [qa, qb, qc, qd] at ho; subst ho
        apply Exists.intro
        refine ⟨Or.inl ⟨by kernel_rfl, fun w' hl => Or.inl ?_⟩, ?_⟩
        · (go_simp; try with_reducible rfl)
        simp only [Act.put, pa, pb, pc]
        refine ltk 9 (by kernel_rfl) (fun _ _ d _ _ h => by cases d <;> exact h) (fun o ho => ?_)
        simp only [qa, qb, qc, qd] at ho; subst ho
        refine ⟨.int .i8 (t : Int), Or.inl ⟨by kernel_rfl, fun w' hl => Or.inl (run_get 26 _ rfl g3 (k * 5 + 1) rfl Tryd.underlying26 rfl (.int .i8 (t : Int)) ((Pms.cell (HE.out.later hl) HX.out 1 _ (by decide) (by omega)).trans rfl))⟩, ?_⟩
        simp only [Act.put, pa, pb, pc]
        refine ltk 10 (by kernel_rfl) (fun _ _ d _ _ h => by cases d <;> exact h) (fun o ho => ?_)
        simp only [qa, qb, qc, qd] at ho; subst ho
        apply Exists.intro
        refine ⟨Or.inl ⟨by kernel_rfl, fun w' hl => Or.inl ?_⟩, ?_⟩
        · (go_simp; try with_reducible rfl)
        simp only [Act.put, pa, pb, pc]
        refine ltk 11 (by kernel_rfl) (fun _ _ d _ _ h => by cases d <;> exact h) (fun o ho => ?_)
        simp only [qa, qb, qc, qd] at ho; subst ho
        apply Exists.intro
        refine ⟨Or.inl ⟨by kernel_rfl, fun w' hl => Or.inl ?_⟩, ?_⟩
        · (go_simp; try with_reducible rfl)
        simp only [Act.put, pa, pb, pc]
        refine late_end (by kernel_rfl) (fun wn hl => ?_)
        have HR1 := Lib.hid (HR1.out.later hl); have HE := Lib.hid (HE.out.later hl); have HB := Lib.hid (below_on HB.out hl); clear hl
        go_step
        cases g1 : (p (1 + a) % 8 == 1)
        · cases g2 : (p (1 + t) != 0)
          · have HBn := Lib.hid (show (⟨(t : Int), a, 0⟩ : Pm) ∈ allL (upd (upd p (1 + a) 0) (1 + t) (p (1 + a))) from HBm.out (beq_eq_false_iff_ne.1 g1) (by simpa using g2))
            obtain ⟨Q0, HQ0⟩ : ∃ Q0, Hid (upd (upd p (1 + a) 0) (1 + t) (p (1 + a)) = Q0) := ⟨_, Lib.hid rfl⟩
            have HF2 := Lib.hid (show PsR Q0 by rw [← HQ0.out]; exact psr_upd (psr_upd HF.out ha ⟨by decide, by decide⟩) ht hx1)
            obtain ⟨L2, HL2⟩ : ∃ L2, Hid (allL Q0 = L2) := ⟨_, Lib.hid rfl⟩
            have HI2 := Lib.hid (show (⟨(t : Int), a, 0⟩ : Pm) ∈ L2 by rw [← HL2.out, ← HQ0.out]; exact HBn.out)
            have HV2 := Lib.hid (show ∀ (i : Nat) (m : Pm), L2[i]? = some m → FitV (pmM m) by rw [← HL2.out]; exact fun i m h => fit_all (List.mem_of_getElem? h))
            have HZ2 := Lib.hid (show L2.length ≤ 262144 by rw [← HL2.out]; exact all_len _)
            have HVT := Lib.hid (show FitV ⟨(t : Int), (a : Int), 0, 0, false⟩ from ⟨by show -128 ≤ (t : Int) ∧ (t : Int) ≤ 127; omega, by show -128 ≤ (a : Int) ∧ (a : Int) ≤ 127; omega, by show (0 : Int) ≤ 0 ∧ (0 : Int) ≤ 255; omega, by show (0 : Int) ≤ 0 ∧ (0 : Int) ≤ 255; omega⟩)
            obtain ⟨fn, HFn⟩ : ∃ fn : Pm → Bool, Hid (∀ x, fn x = mvE (pmM x) ⟨(t : Int), (a : Int), 0, 0, false⟩) := ⟨_, Lib.hid fun _ => rfl⟩
            have HS := Lib.hid (show (L2.take L2.length).any fn = true from any_len HI2.out (by rw [HFn.out]; exact pm_mv _ _ _))
            clear HBm HBn
            go_wp2_with (first
              | (guard_target = Go.wpList _ _ _ ((⟨some 37, .load _ (.tmp 36), _, _, _, _⟩ : Go.Oper) :: _) _ _; refine step_get rfl 5 _ rfl b1 (1 + a) rfl Tryd.underlying5 rfl (.int .u8 (p (1 + a))) ?_ ?_; exact (kAt_board (Nat.zero_le _) ha ▸ HR1.out.cell (1 + a) (by omega)))
              | (guard_target = Go.wpList _ _ _ ((⟨some 45, .load _ (.tmp 44), _, _, _, _⟩ : Go.Oper) :: _) _ _; refine step_get rfl 5 _ rfl b1 (1 + t) rfl Tryd.underlying5 rfl (.int .u8 (p (1 + t))) ?_ ?_; exact (kAt_board (Nat.zero_le _) ht ▸ HR1.out.cell (1 + t) (by omega)))
              | (guard_target = Go.wpList _ _ _ ((⟨some 8, .alloc _, _, _, _, _⟩ : Go.Oper) :: _) _ _; refine step_alloc (op := ⟨some 8, _, _, _, _, _⟩) rfl rfl ?_; intro b8 wn N R; have HG8 := Lib.hid (show w.heap.size ≤ b8 by have := HB.out.size; have := N.at_; omega); have HYHR1 := Lib.hid (show b1 ≠ b8 from Nat.ne_of_lt (by have h1 := HR1.out.lt; have := N.at_; omega)); have HYHE := Lib.hid (show g3 ≠ b8 from Nat.ne_of_lt (by have h1 := Pms.lt HE.out HX.out; have := N.at_; omega)); have HR1 := Lib.hid (HR1.out.later N.below); have HE := Lib.hid (HE.out.later N.below); have HR8 := Lib.hid R; have HB := Lib.hid (below_on HB.out N.below); clear N R)
              | (guard_target = Go.wpList _ _ _ ((⟨some _, .load _ (.tmp 1), _, _, _, _⟩ : Go.Oper) :: _) _ _; refine step_load rfl _ rfl b1 rfl p HR1.out ?_)
              | (guard_target = Go.wpList _ _ _ ((⟨none, .store _ (.tmp 8) _, _, _, _, _⟩ : Go.Oper) :: _) _ _; refine step_store (op := ⟨none, .store _ (.tmp 8) _, _, _, _, _⟩) rfl _ _ rfl b8 rfl zeroP p rfl HR8.out ?_; intro wn U R; have HR1 := Lib.hid (HR1.out.apart U HYHR1.out); have HE := Lib.hid (Pms.upd HE.out U HYHE.out); have HR8 := Lib.hid R; have HB := Lib.hid (HB.out.trans (U.below HG8.out)); clear U R)
              | (guard_target = Go.wpList _ _ _ ((⟨none, .store _ (.tmp 51) _, _, _, _, _⟩ : Go.Oper) :: _) _ _; refine step_cell (op := ⟨none, .store _ (.tmp 51) _, _, _, _, _⟩) rfl 5 _ _ rfl b8 (1 + a) rfl .u8 0 rfl _ HR8.out (by omega) (kAt_board (Nat.zero_le _) ha) size5 ?_; intro wn U R; have HR1 := Lib.hid (HR1.out.apart U HYHR1.out); have HE := Lib.hid (Pms.upd HE.out U HYHE.out); have HR8 := Lib.hid R; have HB := Lib.hid (HB.out.trans (U.below HG8.out)); clear U R)
              | (guard_target = Go.wpList _ _ _ ((⟨none, .store _ (.tmp 55) _, _, _, _, _⟩ : Go.Oper) :: _) _ _; refine step_cell (op := ⟨none, .store _ (.tmp 55) _, _, _, _, _⟩) rfl 5 _ _ rfl b8 (1 + t) rfl .u8 (p (1 + a)) rfl _ HR8.out (by omega) (kAt_board (Nat.zero_le _) ht) size5 ?_; intro wn U R; rw [HQ0.out] at R; have HR1 := Lib.hid (HR1.out.apart U HYHR1.out); have HE := Lib.hid (Pms.upd HE.out U HYHE.out); have HR8 := Lib.hid R; have HB := Lib.hid (HB.out.trans (U.below HG8.out)); clear U R)
              | (guard_target = Go.wpList _ _ _ ((⟨some _, .load _ (.tmp 8), _, _, _, _⟩ : Go.Oper) :: _) _ _; refine step_load rfl _ rfl b8 rfl Q0 HR8.out ?_)
              | (go_at_call 7; guard_target = Go.Calls _ _ #[Go.Value.agg (posA Q0)] _ _; refine (list_ps Q0 _ HF2.out (HT.out.on HB.out)).mono ?_; rintro e w5 ⟨v, rfl, hv, hb⟩; rw [HL2.out] at hv; obtain ⟨a4, c4, rfl, hE⟩ := pms_of hv; have HE2n := Lib.hid hE; have HR1 := Lib.hid (HR1.out.later hb); have HE := Lib.hid (HE.out.later hb); have HB := Lib.hid (below_on HB.out hb); have HE2 := HE2n; clear hE hv hb HE2n))
            obtain ⟨i0, hi0⟩ := List.getElem?_of_mem HI2.out
            obtain ⟨g4, rfl, _⟩ := HE2.out.at hi0
            clear hi0 g1 g2
            go_loopw [9, 11] (fun bk i wr => ∃ j : Nat, j ≤ L2.length ∧ i = .int .i64 (j : Int) ∧ bk = .bool ((L2.take j).any fn) ∧ Row wr b1 p ∧ Pms L (some ⟨g3, 0, none⟩) wr ∧ Pms L2 (some ⟨g4, 0, none⟩) wr ∧ Below w.heap.size w wr) (fun _ i _ => L2.length - (intOf i).toNat)
            case atStart => exact ⟨0, by omega, rfl, rfl, HR1.out, HE.out, HE2.out, HB.out⟩
            case round =>
              clear HR1 HE HE2 HB
              obtain ⟨i, hi, rfl, rfl, hr1, he, he2, hb⟩ := hrel
              have HR1 := Lib.hid hr1
              have HE := Lib.hid he
              have HE2 := Lib.hid he2
              have HB := Lib.hid hb
              clear hr1 he he2 hb
              by_cases hl2 : i < L2.length
              · obtain ⟨m4, hm4⟩ : ∃ m4, L2[i]? = some m4 := ⟨_, List.getElem?_eq_getElem hl2⟩
                have HX4 := Lib.hid hm4
                have HV4 := Lib.hid (HV2.out i m4 hm4)
                have HN4 := Lib.hid (any_next (f := fn) hm4)
                have HW := Lib.hid (show i < 9223372036854775807 by have := HZ2.out; omega)
                have HLt := Lib.hid hl2
                obtain ⟨r, hr⟩ : ∃ r, fn m4 = r := ⟨_, rfl⟩
                have HG4 := Lib.hid (show mvE (pmM m4) ⟨(t : Int), (a : Int), 0, 0, false⟩ = r by rw [← HFn.out]; exact hr)
                have HR := Lib.hid hr
                have hw1 : (i : Int) < 262144 := by have := HZ2.out; omega
                clear hm4 hr
                obtain ⟨bb, hbb⟩ : ∃ bb, (L2.take i).any fn = bb := ⟨_, rfl⟩
                have HBB := Lib.hid hbb
                rw [hbb]
                clear hbb
                cases bb
                · go_wp2_with (first
                  | (guard_target = Go.wpList _ _ _ ((⟨some 69, .load _ (.tmp 68), _, _, _, _⟩ : Go.Oper) :: _) _ _; refine step_mvK rfl _ rfl g4 i _ rfl (by first | omega | (simp; omega)) m4 (HE2.out.get HX4.out) ?_)
                  | (guard_target = Go.wpList _ _ _ ((⟨some 72, .build _ _, _, _, _, _⟩ : Go.Oper) :: _) _ _; refine step_build (op := ⟨some 72, _, _, _, _, _⟩) rfl 36 _ rfl (mvA ⟨(t : Int), (a : Int), 0, 0, false⟩) (by kernel_rfl) ?_)
                  | (guard_target = Go.wpList _ _ _ ((⟨some 73, .binOp _ _ _ _ _, _, _, _, _⟩ : Go.Oper) :: _) _ _; refine step_mv rfl _ _ rfl (pmM m4) ⟨(t : Int), (a : Int), 0, 0, false⟩ rfl rfl HV4.out HVT.out _ HG4.out ?_))
                  go_roundw
                  case rel => exact ⟨i + 1, by have := HLt.out; omega, by go_num, by rw [HN4.out, HBB.out, HR.out]; rfl, HR1.out, HE.out, HE2.out, HB.out⟩
                  case measure => simp [intOf]; have := HLt.out; omega
                · go_wp2_with fail
                  go_roundw
                  case rel => exact ⟨i + 1, by have := HLt.out; omega, by go_num, by rw [HN4.out, HBB.out]; rfl, HR1.out, HE.out, HE2.out, HB.out⟩
                  case measure => simp [intOf]; have := HLt.out; omega
              · obtain rfl : i = L2.length := by omega
                rw [HS.out]
                go_wp2_with fail
                go_roundw
                case rel => exact ⟨k + 1, by omega, by go_num, HR1.out, HE.out, HB.out⟩
                case measure => simp [intOf]; omega
          · go_wp2_with (first
              | (guard_target = Go.wpList _ _ _ ((⟨some 37, .load _ (.tmp 36), _, _, _, _⟩ : Go.Oper) :: _) _ _; refine step_get rfl 5 _ rfl b1 (1 + a) rfl Tryd.underlying5 rfl (.int .u8 (p (1 + a))) ?_ ?_; exact (kAt_board (Nat.zero_le _) ha ▸ HR1.out.cell (1 + a) (by omega)))
              | (guard_target = Go.wpList _ _ _ ((⟨some 45, .load _ (.tmp 44), _, _, _, _⟩ : Go.Oper) :: _) _ _; refine step_get rfl 5 _ rfl b1 (1 + t) rfl Tryd.underlying5 rfl (.int .u8 (p (1 + t))) ?_ ?_; exact (kAt_board (Nat.zero_le _) ht ▸ HR1.out.cell (1 + t) (by omega))))
            go_roundw
            case rel => exact ⟨k + 1, by omega, by go_num, HR1.out, HE.out, HB.out⟩
            case measure => simp [intOf]; omega
        · go_wp2_with (first
            | (guard_target = Go.wpList _ _ _ ((⟨some 37, .load _ (.tmp 36), _, _, _, _⟩ : Go.Oper) :: _) _ _; refine step_get rfl 5 _ rfl b1 (1 + a) rfl Tryd.underlying5 rfl (.int .u8 (p (1 + a))) ?_ ?_; exact (kAt_board (Nat.zero_le _) ha ▸ HR1.out.cell (1 + a) (by omega)))
            | (guard_target = Go.wpList _ _ _ ((⟨some 45, .load _ (.tmp 44), _, _, _, _⟩ : Go.Oper) :: _) _ _; refine step_get rfl 5 _ rfl b1 (1 + t) rfl Tryd.underlying5 rfl (.int .u8 (p (1 + t))) ?_ ?_; exact (kAt_board (Nat.zero_le _) ht ▸ HR1.out.cell (1 + t) (by omega))))
          go_roundw
          case rel => exact ⟨k + 1, by omega, by go_num, HR1.out, HE.out, HB.out⟩
          case measure => simp [intOf]; omega
      · obtain rfl : k = L.length := by omega
        go_wp2_with (first
      | (go_at_call 10; refine (ps_awake _ (HT.out.on HB.out) (HK.out.on HB.out)).mono ?_; rintro e w4 ⟨rfl, hb⟩; have HB := Lib.hid (below_on HB.out hb); clear hb))
        go_ret
        exact ⟨rfl, HB.out⟩
end Go.Proofs.YtfdheeogpndklaaDoor
