/-
  Layer 13's PseudoOwn.
-/
import Derived.Test.YtfdheeogpndklaaDoorPsM
namespace Go.Proofs.YtfdheeogpndklaaDoor
open Go.RowKit Go.Shelf
set_option linter.unusedVariables false
set_option linter.unusedSimpArgs false

theorem step_mvAt {ops : Array Oper} {rest : List Oper} {op : Oper} {a : Act} {w : World} {Q : Exit → Act → World → Prop} (hw : Region.wanted op (yielded ops a.tmps) = true) (x : Operand) (ho : op.op = .load 36 x) (g i off : Nat) (hx : a.eval x = .pointer (some ⟨g, off, none⟩)) (hi : off = 5 * i) (m : Pm) (hr : w.rangeAt g (5 * i) (pmA m).toList)
    (h : wpList Tryd.prog ops Q rest (a.put op.dst (.agg (pmA m))) w) : wpList Tryd.prog ops Q (op :: rest) a w := by
  subst hi
  exact wpList_want hw fun _ hK => wp_load_mid 36 x ho g (5 * i) hx (pmA m).toList _ hr Tryd.underlying36 rfl sizePm (hK _ _ h)
theorem wp_cutK {P : Program} {Q : Exit → Act → World → Prop} {K : Act → World → Prop} {a : Act} {w : World} {x : Code} (M : Act → World → Prop) (h1 : ∀ K : Act → World → Prop, Hid (∀ a w, M a w → K a w) → x.wp P (Exit.then K Q) a w) (h2 : ∀ a w, M a w → K a w) : x.wp P (Exit.then K Q) a w := h1 K (Lib.hid h2)
theorem pm_one (m : Pm) : (pmA m).all (·.oneCell') = true := by simp [pmA, Value.oneCell']
set_option maxRecDepth 100000 in
set_option maxHeartbeats 4000000 in
theorem psOwn_any (p : Nat → Int) (w : World) (hp : PsR p) (hT : PsT w) (hK : TabKn w) : Calls Tryd.prog 5 #[.agg (posA p)] w (BoL true w) := by
  have HF := Lib.hid hp
  have HT := Lib.hid hT
  have HK := Lib.hid hK
  clear hp hT hK
  have HB := Lib.hid (Below.refl w.heap.size w)
  cases hL : lawQ p
  · have HQ := Lib.hid hL
    clear hL
    go_enter Tryd.func5, Tryd.ntmps5
    go_wp2_with (first
      | (guard_target = Go.wpList _ _ _ ((⟨some 1, .box _ _, _, _, _, _⟩ : Go.Oper) :: _) _ _; refine step_box rfl _ rfl p rfl ?_; intro b1 w1 N R; have HG1 := Lib.hid (show w.heap.size ≤ b1 by have := HB.out.size; have := N.at_; omega); have HB := Lib.hid (below_on HB.out N.below); have HR1 := Lib.hid R; clear N R)
      | (guard_target = Go.wpList _ _ _ ((⟨some _, .load _ (.tmp 1), _, _, _, _⟩ : Go.Oper) :: _) _ _; refine step_load rfl _ rfl b1 rfl p HR1.out ?_)
      | (go_at_call 11; refine (ps_lawful p _ HF.out).mono ?_; rintro e w3 ⟨rfl, hb⟩; rw [HQ.out]; have HR1 := Lib.hid (HR1.out.later hb); have HB := Lib.hid (below_on HB.out hb); clear hb)
      | (go_at_call 10; refine (ps_awake _ (HT.out.on HB.out) (HK.out.on HB.out)).mono ?_; rintro e w4 ⟨rfl, hb⟩; have HB := Lib.hid (below_on HB.out hb); clear hb))
    go_ret
    exact ⟨rfl, HB.out⟩
  · have HQ := Lib.hid hL
    obtain ⟨L, HL⟩ : ∃ L, Hid (allL p = L) := ⟨_, Lib.hid rfl⟩
    have HM := Lib.hid (show ∀ (i : Nat) (m : Pm), L[i]? = some m → OwnM p m by rw [← HL.out]; exact fun i m h => all_own HF.out hL (List.mem_of_getElem? h))
    have HN := Lib.hid (show ∀ (i : Nat) (m n : Pm), L[i]? = some n → L[i + 1]? = some m → LtM n m by rw [← HL.out]; exact fun i m n h1 h2 => all_next h1 h2)
    have HZ := Lib.hid (show L.length ≤ 262144 by rw [← HL.out]; exact all_len p)
    clear hL
    go_enter Tryd.func5, Tryd.ntmps5
    go_wp2_with (first
      | (guard_target = Go.wpList _ _ _ ((⟨some 1, .box _ _, _, _, _, _⟩ : Go.Oper) :: _) _ _; refine step_box rfl _ rfl p rfl ?_; intro b1 w1 N R; have HG1 := Lib.hid (show w.heap.size ≤ b1 by have := HB.out.size; have := N.at_; omega); have HB := Lib.hid (below_on HB.out N.below); have HR1 := Lib.hid R; clear N R)
      | (guard_target = Go.wpList _ _ _ ((⟨some _, .load _ (.tmp 1), _, _, _, _⟩ : Go.Oper) :: _) _ _; refine step_load rfl _ rfl b1 rfl p HR1.out ?_)
      | (go_at_call 11; refine (ps_lawful p _ HF.out).mono ?_; rintro e w3 ⟨rfl, hb⟩; rw [HQ.out]; have HR1 := Lib.hid (HR1.out.later hb); have HB := Lib.hid (below_on HB.out hb); clear hb)
      | (go_at_call 7; refine (list_ps p _ HF.out (HT.out.on HB.out)).mono ?_; rintro e w5 ⟨v, rfl, hv, hb⟩; rw [HL.out] at hv; obtain ⟨a3, c3, rfl, hE⟩ := pms_of hv; have HE := Lib.hid hE; have HR1 := Lib.hid (HR1.out.later hb); have HB := Lib.hid (below_on HB.out hb); clear hE hv hb))
    go_loopw [4] (fun i wr => ∃ k : Nat, k ≤ L.length ∧ i = .int .i64 (k : Int) ∧ Row wr b1 p ∧ Pms L a3 wr ∧ Below w.heap.size w wr) (fun i _ => L.length - (intOf i).toNat)
    case atStart => exact ⟨0, by omega, rfl, HR1.out, HE.out, HB.out⟩
    case round =>
      clear HR1 HE HB
      obtain ⟨k, hk, rfl, hr1, he, hb⟩ := hrel
      have HR1 := Lib.hid hr1
      have HE := Lib.hid he
      have HB := Lib.hid hb
      clear hr1 he hb
      by_cases hlt : k < L.length
      · obtain ⟨m, hm⟩ : ∃ m, L[k]? = some m := ⟨_, List.getElem?_eq_getElem hlt⟩
        obtain ⟨g3, rfl, _⟩ := HE.out.at hm
        have HX := Lib.hid hm
        obtain ⟨⟨a, ha, hf, hx0, hxc, hpk⟩, ht, hto⟩ := HM.out k m hm
        obtain ⟨f, t, q⟩ := m
        obtain rfl : f = (a : Int) := hf
        have hx1 := HF.out.bd a ha
        have hy1 := HF.out.bd t ht
        have HO := Lib.hid (And.intro hx0 (And.intro hxc (And.intro hpk hto)))
        clear hm hx0 hxc hpk hto
        go_wp2_with (first
      | (guard_target = Go.wpList _ _ _ ((⟨some 25, .load _ (.tmp 24), _, _, _, _⟩ : Go.Oper) :: _) _ _; refine step_mvAt rfl _ rfl g3 k _ rfl (by first | omega | (simp; omega)) ⟨(a : Int), t, q⟩ (HE.out.get HX.out) ?_)
      | (guard_target = Go.wpList _ _ _ ((⟨some 5, .alloc _, _, _, _, _⟩ : Go.Oper) :: _) _ _; refine blk_alloc rfl 36 rfl (mvA mv0) zeroMv ?_; intro b5 wn N R; have HG5 := Lib.hid (show w.heap.size ≤ b5 by have := HB.out.size; have := N.at_; omega); have HY1 := Lib.hid (show b1 ≠ b5 from Nat.ne_of_lt (by have h1 := HR1.out.lt; have := N.at_; omega)); have HY3 := Lib.hid (show g3 ≠ b5 from Nat.ne_of_lt (by have h1 := Pms.lt HE.out HX.out; have := N.at_; omega)); have HR1 := Lib.hid (HR1.out.later N.below); have HE := Lib.hid (HE.out.later N.below); have HM5 := Lib.hid R; have HB := Lib.hid (below_on HB.out N.below); clear N R)
      | (guard_target = Go.wpList _ _ _ ((⟨none, .store _ (.tmp 5) _, _, _, _, _⟩ : Go.Oper) :: _) _ _; refine blk_store rfl 36 _ _ rfl b5 rfl (mvA mv0) (pmA ⟨(a : Int), t, q⟩) rfl HM5.out rfl (pm_one _) sizePm ?_; intro wn U R; have HR1 := Lib.hid (HR1.out.apart U HY1.out); have HE := Lib.hid (Pms.upd HE.out U HY3.out); have HM5 := Lib.hid R; have HB := Lib.hid (HB.out.trans (U.below HG5.out)); clear U R))
        refine late_begin 12 (by kernel_rfl) ?_
        refine ltk 0 (by kernel_rfl) (fun _ _ d _ _ h => by cases d <;> exact h) (fun o ho => ?_)
        simp only [qa, qb, qc, qd] at ho; subst ho
        apply Exists.intro
        refine ⟨Or.inl ⟨by kernel_rfl, fun w' hl => Or.inl ?_⟩, ?_⟩
        · (go_simp; try with_reducible rfl)
        simp only [Act.put, pa, pb, pc]
        refine ltk 1 (by kernel_rfl) (fun _ _ d _ _ h => by cases d <;> exact h) (fun o ho => ?_)
        simp only [qa, qb, qc, qd] at ho; subst ho
        refine ⟨.int .i8 (a : Int), Or.inl ⟨by kernel_rfl, fun w' hl => Or.inl (run_get 26 _ rfl b5 0 rfl Tryd.underlying26 rfl (.int .i8 (a : Int)) (((HM5.out.later hl).cell 0).trans rfl))⟩, ?_⟩
        simp only [Act.put, pa, pb, pc]
        refine ltk 2 (by kernel_rfl) (fun _ _ d _ _ h => by cases d <;> exact h) (fun o ho => ?_)
        simp only [qa, qb, qc, qd] at ho; subst ho
        apply Exists.intro
        refine ⟨Or.inl ⟨by kernel_rfl, fun w' hl => Or.inl ?_⟩, ?_⟩
        · (go_simp; try with_reducible rfl)
        simp only [Act.put, pa, pb, pc]
        refine ltk 3 (by kernel_rfl) (fun _ _ d _ _ h => by cases d <;> exact h) (fun o ho => ?_)
        simp only [qa, qb, qc, qd] at ho; subst ho
        refine ⟨.pointer (some ⟨b1, 1 + a, none⟩), Or.inl ⟨by kernel_rfl, fun w' hl => Or.inl ?_⟩, ?_⟩
        · (go_simp; intro hbad; omega)
        simp only [Act.put, pa, pb, pc]
        refine ltk 4 (by kernel_rfl) (fun _ _ d _ _ h => by cases d <;> exact h) (fun o ho => ?_)
        simp only [qa, qb, qc, qd] at ho; subst ho
        refine ⟨.int .u8 (p (1 + a)), Or.inl ⟨by kernel_rfl, fun w' hl => Or.inl (run_get 5 _ rfl b1 (1 + a) rfl Tryd.underlying5 rfl (.int .u8 (p (1 + a))) (kAt_board (Nat.zero_le _) ha ▸ (HR1.out.later hl).cell (1 + a) (by omega)))⟩, ?_⟩
        simp only [Act.put, pa, pb, pc]
        refine ltk 5 (by kernel_rfl) (fun _ _ d _ _ h => by cases d <;> exact h) (fun o ho => ?_)
        simp only [qa, qb, qc, qd] at ho; subst ho
        apply Exists.intro
        refine ⟨Or.inl ⟨by kernel_rfl, fun w' hl => Or.inl ?_⟩, ?_⟩
        · (go_simp; try with_reducible rfl)
        simp only [Act.put, pa, pb, pc]
        refine ltk 6 (by kernel_rfl) (fun _ _ d _ _ h => by cases d <;> exact h) (fun o ho => ?_)
        simp only [qa, qb, qc, qd] at ho; subst ho
        refine ⟨.int .i8 (t : Int), Or.inl ⟨by kernel_rfl, fun w' hl => Or.inl (run_get 26 _ rfl b5 1 rfl Tryd.underlying26 rfl (.int .i8 (t : Int)) (((HM5.out.later hl).cell 1).trans rfl))⟩, ?_⟩
        simp only [Act.put, pa, pb, pc]
        refine ltk 7 (by kernel_rfl) (fun _ _ d _ _ h => by cases d <;> exact h) (fun o ho => ?_)
        simp only [qa, qb, qc, qd] at ho; subst ho
        apply Exists.intro
        refine ⟨Or.inl ⟨by kernel_rfl, fun w' hl => Or.inl ?_⟩, ?_⟩
        · (go_simp; try with_reducible rfl)
        simp only [Act.put, pa, pb, pc]
        refine ltk 8 (by kernel_rfl) (fun _ _ d _ _ h => by cases d <;> exact h) (fun o ho => ?_)
        simp only [qa, qb, qc, qd] at ho; subst ho
        refine ⟨.pointer (some ⟨b1, 1 + t, none⟩), Or.inl ⟨by kernel_rfl, fun w' hl => Or.inl ?_⟩, ?_⟩
        · (go_simp; intro hbad; omega)
        simp only [Act.put, pa, pb, pc]
        refine ltk 9 (by kernel_rfl) (fun _ _ d _ _ h => by cases d <;> exact h) (fun o ho => ?_)
        simp only [qa, qb, qc, qd] at ho; subst ho
        refine ⟨.int .u8 (p (1 + t)), Or.inl ⟨by kernel_rfl, fun w' hl => Or.inl (run_get 5 _ rfl b1 (1 + t) rfl Tryd.underlying5 rfl (.int .u8 (p (1 + t))) (kAt_board (Nat.zero_le _) ht ▸ (HR1.out.later hl).cell (1 + t) (by omega)))⟩, ?_⟩
        simp only [Act.put, pa, pb, pc]
        refine ltk 10 (by kernel_rfl) (fun _ _ d _ _ h => by cases d <;> exact h) (fun o ho => ?_)
        simp only [qa, qb, qc, qd] at ho; subst ho
        apply Exists.intro
        refine ⟨Or.inl ⟨by kernel_rfl, fun w' hl => Or.inl ?_⟩, ?_⟩
        · (go_simp; try with_reducible rfl)
        simp only [Act.put, pa, pb, pc]
        refine ltk 11 (by kernel_rfl) (fun _ _ d _ _ h => by cases d <;> exact h) (fun o ho => ?_)
        simp only [qa, qb, qc, qd] at ho; subst ho
        apply Exists.intro
        refine ⟨Or.inl ⟨by kernel_rfl, fun w' hl => Or.inl ?_⟩, ?_⟩
        · (go_simp; try with_reducible rfl)
        simp only [Act.put, pa, pb, pc]
        refine late_end (by kernel_rfl) (fun wn hl => ?_)
        have HR1 := Lib.hid (HR1.out.later hl); have HE := Lib.hid (HE.out.later hl); have HM5 := Lib.hid (HM5.out.later hl); have HB := Lib.hid (below_on HB.out hl); clear hl
        go_step
        go_step
        go_step
        obtain ⟨l, hl⟩ : ∃ l, lastB p t = l := ⟨_, rfl⟩
        have hll : l = ((((t : Int) / 8 == 7) && (p 78 == 0)) || (((t : Int) / 8 == 0) && (p 78 == 1))) := by rw [← hl]; unfold lastB; rw [show ((t / 8 : Nat) : Int) = (t : Int) / 8 by omega]
        refine wp_cutK (P := Tryd.prog) (fun a' w' => ∃ v36 v37 v38 v39 v40 v41 v42 v43 v44 v45 v46 v47 v48 v49 v50 v51 v52 v53 v54 v55 : Value, a' = { tmps := (.agg (posA p) :: .pointer (some ⟨b1, 0, none⟩) :: u2 :: .slice (some ⟨g3, 0, none⟩) L.length c3 :: .int .i64 (k : Int) :: .pointer (some ⟨b5, 0, none⟩) :: .int .u8 (p (1 + a)) :: .int .u8 (p (1 + t)) :: .bool l :: u9 :: .agg (posA p) :: .bool true :: .bool false :: undef :: .agg (posA p) :: .slice (some ⟨g3, 0, none⟩) L.length c3 :: .int .i64 (k : Int) :: .slice (some ⟨g3, 0, none⟩) L.length c3 :: .int .i64 (L.length : Int) :: .bool true :: u20 :: u21 :: .slice (some ⟨g3, 0, none⟩) L.length c3 :: .int .i64 (k : Int) :: .pointer (some ⟨g3, k * 5, none⟩) :: .agg (pmA ⟨(a : Int), t, q⟩) :: .pointer (some ⟨b5, 0, none⟩) :: .int .i8 (a : Int) :: .pointer (some ⟨b1, 1, none⟩) :: .pointer (some ⟨b1, 1 + a, none⟩) :: .int .u8 (p (1 + a)) :: .pointer (some ⟨b5, 1, none⟩) :: .int .i8 (t : Int) :: .pointer (some ⟨b1, 1, none⟩) :: .pointer (some ⟨b1, 1 + t, none⟩) :: .int .u8 (p (1 + t)) :: v36 :: v37 :: v38 :: v39 :: v40 :: v41 :: v42 :: v43 :: v44 :: v45 :: v46 :: v47 :: v48 :: v49 :: v50 :: v51 :: v52 :: v53 :: v54 :: v55 :: u56 :: u57 :: u58 :: u59 :: u60 :: u61 :: u62 :: u63 :: u64 :: u65 :: u66 :: u67 :: u68 :: u69 :: u70 :: u71 :: u72 :: u73 :: u74 :: u75 :: u76 :: u77 :: u78 :: u79 :: u80 :: u81 :: u82 :: u83 :: u84 :: u85 :: u86 :: u87 :: u88 :: u89 :: u90 :: u91 :: u92 :: u93 :: u94 :: u95 :: u96 :: u97 :: u98 :: u99 :: u100 :: u101 :: u102 :: u103 :: u104 :: u105 :: u106 :: u107 :: u108 :: u109 :: u110 :: u111 :: u112 :: u113 :: u114 :: u115 :: u116 :: u117 :: u118 :: u119 :: u120 :: u121 :: u122 :: u123 :: u124 :: u125 :: u126 :: u127 :: u128 :: u129 :: u130 :: u131 :: u132 :: u133 :: u134 :: u135 :: u136 :: undef :: []).toArray, defers := [] } ∧ w' = wn) (fun K hK => ?_) (fun a' w' hm => ?_)
        · cases g7 : ((t : Int) / 8 == 7) <;> cases g8 : ((t : Int) / 8 == 0) <;> cases g0 : (p 78 == 0) <;> cases g1 : (p 78 == 1)
          all_goals
            rw [g7, g8, g0, g1] at hll
            simp only [Bool.and_true, Bool.and_false, Bool.or_false, Bool.or_true, Bool.true_and, Bool.false_and, Bool.false_or, Bool.true_or] at hll
            subst hll
            go_wp2_with (first
              | (guard_target = Go.wpList _ _ _ ((⟨some _, .load _ (.tmp 36), _, _, _, _⟩ : Go.Oper) :: _) _ _; refine step_get rfl 26 _ rfl b5 1 rfl Tryd.underlying26 rfl (.int .i8 (t : Int)) ?_ ?_; exact (HM5.out.cell 1).trans rfl)
              | (guard_target = Go.wpList _ _ _ ((⟨some _, .load _ (.tmp 46), _, _, _, _⟩ : Go.Oper) :: _) _ _; refine step_get rfl 26 _ rfl b5 1 rfl Tryd.underlying26 rfl (.int .i8 (t : Int)) ?_ ?_; exact (HM5.out.cell 1).trans rfl)
              | (guard_target = Go.wpList _ _ _ ((⟨some _, .load _ (.tmp 41), _, _, _, _⟩ : Go.Oper) :: _) _ _; refine step_get rfl 5 _ rfl b1 78 rfl Tryd.underlying5 rfl (.int .u8 (p 78)) ?_ ?_; exact HR1.out.cell 78 (by decide))
              | (guard_target = Go.wpList _ _ _ ((⟨some _, .load _ (.tmp 51), _, _, _, _⟩ : Go.Oper) :: _) _ _; refine step_get rfl 5 _ rfl b1 78 rfl Tryd.underlying5 rfl (.int .u8 (p 78)) ?_ ?_; exact HR1.out.cell 78 (by decide)))
            exact hK.out _ _ ⟨_, _, _, _, _, _, _, _, _, _, _, _, _, _, _, _, _, _, _, _, rfl, rfl⟩
        · obtain ⟨v36, v37, v38, v39, v40, v41, v42, v43, v44, v45, v46, v47, v48, v49, v50, v51, v52, v53, v54, v55, rfl, rfl⟩ := hm
          clear hll
          obtain ⟨ho0, hoc, hok, hoy⟩ := HO.out
          have hok : ((q != 0) = ((p (1 + a) % 8 == 1) && l)) := by rw [← hl]; exact hok
          have gx : (p (1 + a) == 0) = false := beq_eq_false_iff_ne.2 ho0
          have gd : (p (1 + a) / 8 != p 78) = false := by simp [hoc]
          have gq : ((q : Int) != 0) = ((p (1 + a) % 8 == 1) && l) := by rw [← hok, Bool.eq_iff_iff]; simp
          have gyd : (p (1 + t) != 0) = true → (p (1 + t) / 8 == p 78) = false := fun h => beq_eq_false_iff_ne.2 (hoy.elim (fun h0 => by rw [h0] at h; exact absurd h (by decide)) id)
          clear hok hoc hoy ho0 hl
          go_step
          go_step
          refine wp_cutK (P := Tryd.prog) (fun a2 w2 => ∃ v56 v57 v58 v59 v60 v61 v62 v63 v64 v65 v66 v67 v68 v69 v70 v71 v72 v73 v74 v75 v76 v77 v78 v79 v80 v81 v82 v83 v84 v85 v86 v87 v88 v89 v90 v91 v92 v93 v94 v95 v96 : Value, a2 = { tmps := (.agg (posA p) :: .pointer (some ⟨b1, 0, none⟩) :: u2 :: .slice (some ⟨g3, 0, none⟩) L.length c3 :: .int .i64 (k : Int) :: .pointer (some ⟨b5, 0, none⟩) :: .int .u8 (p (1 + a)) :: .int .u8 (p (1 + t)) :: .bool l :: u9 :: .agg (posA p) :: .bool true :: .bool false :: undef :: .agg (posA p) :: .slice (some ⟨g3, 0, none⟩) L.length c3 :: .int .i64 (k : Int) :: .slice (some ⟨g3, 0, none⟩) L.length c3 :: .int .i64 (L.length : Int) :: .bool true :: u20 :: u21 :: .slice (some ⟨g3, 0, none⟩) L.length c3 :: .int .i64 (k : Int) :: .pointer (some ⟨g3, k * 5, none⟩) :: .agg (pmA ⟨(a : Int), t, q⟩) :: .pointer (some ⟨b5, 0, none⟩) :: .int .i8 (a : Int) :: .pointer (some ⟨b1, 1, none⟩) :: .pointer (some ⟨b1, 1 + a, none⟩) :: .int .u8 (p (1 + a)) :: .pointer (some ⟨b5, 1, none⟩) :: .int .i8 (t : Int) :: .pointer (some ⟨b1, 1, none⟩) :: .pointer (some ⟨b1, 1 + t, none⟩) :: .int .u8 (p (1 + t)) :: v36 :: v37 :: v38 :: v39 :: v40 :: v41 :: v42 :: v43 :: v44 :: v45 :: v46 :: v47 :: v48 :: v49 :: v50 :: v51 :: v52 :: v53 :: v54 :: v55 :: v56 :: v57 :: v58 :: v59 :: v60 :: v61 :: v62 :: v63 :: v64 :: v65 :: v66 :: v67 :: v68 :: v69 :: v70 :: v71 :: v72 :: v73 :: v74 :: v75 :: v76 :: v77 :: v78 :: v79 :: v80 :: v81 :: v82 :: v83 :: v84 :: v85 :: v86 :: v87 :: v88 :: v89 :: v90 :: v91 :: v92 :: v93 :: v94 :: v95 :: v96 :: u97 :: u98 :: u99 :: u100 :: u101 :: u102 :: u103 :: u104 :: u105 :: u106 :: u107 :: u108 :: u109 :: u110 :: u111 :: u112 :: u113 :: u114 :: u115 :: u116 :: u117 :: u118 :: u119 :: u120 :: u121 :: u122 :: u123 :: u124 :: u125 :: u126 :: u127 :: u128 :: u129 :: u130 :: u131 :: u132 :: u133 :: u134 :: u135 :: u136 :: undef :: []).toArray, defers := [] } ∧ w2 = w') (fun K hK => ?_) (fun a2 w2 hm => ?_)
          · cases gy : (p (1 + t) != 0)
            all_goals
              cases g91 : (p (1 + a) % 8 == 1)
              all_goals
                cases l
                all_goals
                  rw [g91] at gq
                  simp only [Bool.and_true, Bool.and_false, Bool.true_and, Bool.false_and] at gq
                  first | (have gyd := gyd gy) | clear gyd
                  go_wp2_with (first
                    | (guard_target = Go.wpList _ _ _ ((⟨some _, .load _ (.tmp 61), _, _, _, _⟩ : Go.Oper) :: _) _ _; refine step_get rfl 5 _ rfl b1 78 rfl Tryd.underlying5 rfl (.int .u8 (p 78)) ?_ ?_; exact HR1.out.cell 78 (by decide))
                    | (guard_target = Go.wpList _ _ _ ((⟨some _, .load _ (.tmp 71), _, _, _, _⟩ : Go.Oper) :: _) _ _; refine step_get rfl 5 _ rfl b1 78 rfl Tryd.underlying5 rfl (.int .u8 (p 78)) ?_ ?_; exact HR1.out.cell 78 (by decide))
                    | (guard_target = Go.wpList _ _ _ ((⟨some _, .load _ (.tmp 77), _, _, _, _⟩ : Go.Oper) :: _) _ _; refine step_get rfl 5 _ rfl b5 3 rfl Tryd.underlying5 rfl (.int .u8 0) ?_ ?_; exact (HM5.out.cell 3).trans rfl)
                    | (guard_target = Go.wpList _ _ _ ((⟨some _, .load _ (.tmp 82), _, _, _, _⟩ : Go.Oper) :: _) _ _; refine step_get rfl 4 _ rfl b5 4 rfl Tryd.underlying4 rfl (.bool false) ?_ ?_; exact (HM5.out.cell 4).trans rfl)
                    | (guard_target = Go.wpList _ _ _ ((⟨some _, .load _ (.tmp 86), _, _, _, _⟩ : Go.Oper) :: _) _ _; refine step_get rfl 5 _ rfl b5 2 rfl Tryd.underlying5 rfl (.int .u8 (q : Int)) ?_ ?_; exact (HM5.out.cell 2).trans rfl))
                  exact hK.out _ _ ⟨_, _, _, _, _, _, _, _, _, _, _, _, _, _, _, _, _, _, _, _, _, _, _, _, _, _, _, _, _, _, _, _, _, _, _, _, _, _, _, _, _, rfl, rfl⟩
          · obtain ⟨v56, v57, v58, v59, v60, v61, v62, v63, v64, v65, v66, v67, v68, v69, v70, v71, v72, v73, v74, v75, v76, v77, v78, v79, v80, v81, v82, v83, v84, v85, v86, v87, v88, v89, v90, v91, v92, v93, v94, v95, v96, rfl, rfl⟩ := hm
            clear gx gd gq gyd
            rcases Nat.eq_zero_or_pos k with hk0 | hk0
            · have g12 : decide (0 < k) = false := decide_eq_false (by omega)
              have g12' : decide ((0 : Int) < (k : Int)) = false := decide_eq_false (by omega)
              go_wp2_with fail
              go_round
              case rel => exact ⟨k + 1, by omega, by go_num, HR1.out, HE.out, HB.out⟩
              case measure => simp [intOf]; omega
            · have g12 : decide (0 < k) = true := decide_eq_true hk0
              have g12' : decide ((0 : Int) < (k : Int)) = true := decide_eq_true (by omega)
              obtain ⟨j, hj⟩ : ∃ j, k = j + 1 := ⟨k - 1, by omega⟩
              have wj : IntKind.i64.wrap ((k : Int) - 1) = (j : Int) := by have := HZ.out; rw [IntKind.wrap_i64]; omega
              have hj2 : L[k]? = some ⟨(a : Int), t, q⟩ := HX.out
              obtain ⟨m2, hm2⟩ : ∃ m2, L[j]? = some m2 := ⟨_, List.getElem?_eq_getElem (by omega)⟩
              have HX2 := Lib.hid hm2
              obtain ⟨⟨c, hc, hcf, _, _, _⟩, ht2, _⟩ := HM.out j m2 hm2
              have hlt' := HN.out j _ _ hm2 (by rw [← hj]; exact hj2)
              obtain ⟨f2, t2, q2⟩ := m2
              obtain rfl : f2 = (c : Int) := hcf
              unfold LtM at hlt'
              simp only at hlt'
              have h1 : decide ((a : Int) < (c : Int)) = false := decide_eq_false (by omega)
              have h1' : decide (a < c) = false := decide_eq_false (by omega)
              have h2 : (c = a) → decide ((t : Int) < (t2 : Int)) = false := fun e => decide_eq_false (by omega)
              have h2' : (c = a) → decide (t < t2) = false := fun e => decide_eq_false (by omega)
              have h3 : (c = a) → (t2 = t) → decide (q ≤ q2) = false := fun e e2 => decide_eq_false (by omega)
              have wk : k < 9223372036854775807 := by have := HZ.out; omega
              by_cases e1 : c = a
              · have g1 : ((c : Int) == (a : Int)) = true := beq_iff_eq.2 (by omega)
                have g1' : (c == a) = true := beq_iff_eq.2 e1
                have h2 := h2 e1
                have h2' := h2' e1
                by_cases e2 : t2 = t
                · have g2 : ((t2 : Int) == (t : Int)) = true := beq_iff_eq.2 (by omega)
                  have g2' : (t2 == t) = true := beq_iff_eq.2 e2
                  have h3 := h3 e1 e2
                  have h3' : decide ((q : Int) ≤ (q2 : Int)) = false := decide_eq_false (by have := of_decide_eq_false h3; omega)
                  clear e1 e2 hlt' hj2 hm2
                  go_wp2_with (first
                  | (guard_target = Go.wpList _ _ _ ((⟨some 103, .load _ (.tmp 102), _, _, _, _⟩ : Go.Oper) :: _) _ _; refine step_mvAt rfl _ rfl g3 j _ rfl (by first | omega | (simp; omega)) ⟨(c : Int), t2, q2⟩ (HE.out.get HX2.out) ?_)
                  | (guard_target = Go.wpList _ _ _ ((⟨some 9, .alloc _, _, _, _, _⟩ : Go.Oper) :: _) _ _; refine blk_alloc rfl 36 rfl (mvA mv0) zeroMv ?_; intro b9 wn N R; have HG9 := Lib.hid (show w.heap.size ≤ b9 by have := HB.out.size; have := N.at_; omega); have HZ1 := Lib.hid (show b1 ≠ b9 from Nat.ne_of_lt (by have h1 := HR1.out.lt; have := N.at_; omega)); have HZ3 := Lib.hid (show g3 ≠ b9 from Nat.ne_of_lt (by have h1 := Pms.lt HE.out HX.out; have := N.at_; omega)); have HR1 := Lib.hid (HR1.out.later N.below); have HE := Lib.hid (HE.out.later N.below); have HZ5 := Lib.hid (show b5 ≠ b9 from Nat.ne_of_lt (by have h1 := Blk.lt HM5.out; have := N.at_; omega)); have HM5 := Lib.hid (HM5.out.later N.below); have HM9 := Lib.hid R; have HB := Lib.hid (below_on HB.out N.below); clear N R)
                  | (guard_target = Go.wpList _ _ _ ((⟨none, .store _ (.tmp 9) _, _, _, _, _⟩ : Go.Oper) :: _) _ _; refine blk_store rfl 36 _ _ rfl b9 rfl (mvA mv0) (pmA ⟨(c : Int), t2, q2⟩) rfl HM9.out rfl (pm_one _) sizePm ?_; intro wn U R; have HR1 := Lib.hid (HR1.out.apart U HZ1.out); have HE := Lib.hid (Pms.upd HE.out U HZ3.out); have HM5 := Lib.hid (HM5.out.apart U HZ5.out); have HM9 := Lib.hid R; have HB := Lib.hid (HB.out.trans (U.below HG9.out)); clear U R)
                  | (guard_target = Go.wpList _ _ _ ((⟨some 105, .load _ (.tmp 104), _, _, _, _⟩ : Go.Oper) :: _) _ _; refine step_get rfl 26 _ rfl b9 0 rfl Tryd.underlying26 rfl (.int .i8 (c : Int)) ?_ ?_; exact (HM9.out.cell 0).trans rfl)
                  | (guard_target = Go.wpList _ _ _ ((⟨some 107, .load _ (.tmp 106), _, _, _, _⟩ : Go.Oper) :: _) _ _; refine step_get rfl 26 _ rfl b5 0 rfl Tryd.underlying26 rfl (.int .i8 (a : Int)) ?_ ?_; exact (HM5.out.cell 0).trans rfl)
                  | (guard_target = Go.wpList _ _ _ ((⟨some 111, .load _ (.tmp 110), _, _, _, _⟩ : Go.Oper) :: _) _ _; refine step_get rfl 26 _ rfl b9 0 rfl Tryd.underlying26 rfl (.int .i8 (c : Int)) ?_ ?_; exact (HM9.out.cell 0).trans rfl)
                  | (guard_target = Go.wpList _ _ _ ((⟨some 113, .load _ (.tmp 112), _, _, _, _⟩ : Go.Oper) :: _) _ _; refine step_get rfl 26 _ rfl b5 0 rfl Tryd.underlying26 rfl (.int .i8 (a : Int)) ?_ ?_; exact (HM5.out.cell 0).trans rfl)
                  | (guard_target = Go.wpList _ _ _ ((⟨some 117, .load _ (.tmp 116), _, _, _, _⟩ : Go.Oper) :: _) _ _; refine step_get rfl 26 _ rfl b9 1 rfl Tryd.underlying26 rfl (.int .i8 (t2 : Int)) ?_ ?_; exact (HM9.out.cell 1).trans rfl)
                  | (guard_target = Go.wpList _ _ _ ((⟨some 119, .load _ (.tmp 118), _, _, _, _⟩ : Go.Oper) :: _) _ _; refine step_get rfl 26 _ rfl b5 1 rfl Tryd.underlying26 rfl (.int .i8 (t : Int)) ?_ ?_; exact (HM5.out.cell 1).trans rfl)
                  | (guard_target = Go.wpList _ _ _ ((⟨some 123, .load _ (.tmp 122), _, _, _, _⟩ : Go.Oper) :: _) _ _; refine step_get rfl 26 _ rfl b9 1 rfl Tryd.underlying26 rfl (.int .i8 (t2 : Int)) ?_ ?_; exact (HM9.out.cell 1).trans rfl)
                  | (guard_target = Go.wpList _ _ _ ((⟨some 125, .load _ (.tmp 124), _, _, _, _⟩ : Go.Oper) :: _) _ _; refine step_get rfl 26 _ rfl b5 1 rfl Tryd.underlying26 rfl (.int .i8 (t : Int)) ?_ ?_; exact (HM5.out.cell 1).trans rfl)
                  | (guard_target = Go.wpList _ _ _ ((⟨some 129, .load _ (.tmp 128), _, _, _, _⟩ : Go.Oper) :: _) _ _; refine step_get rfl 5 _ rfl b9 2 rfl Tryd.underlying5 rfl (.int .u8 (q2 : Int)) ?_ ?_; exact (HM9.out.cell 2).trans rfl)
                  | (guard_target = Go.wpList _ _ _ ((⟨some 131, .load _ (.tmp 130), _, _, _, _⟩ : Go.Oper) :: _) _ _; refine step_get rfl 5 _ rfl b5 2 rfl Tryd.underlying5 rfl (.int .u8 (q : Int)) ?_ ?_; exact (HM5.out.cell 2).trans rfl))
                  go_round
                  case rel => exact ⟨k + 1, by omega, by go_num, HR1.out, HE.out, HB.out⟩
                  case measure => simp [intOf]; omega
                · have g2 : ((t2 : Int) == (t : Int)) = false := beq_eq_false_iff_ne.2 (by omega)
                  have g2' : (t2 == t) = false := beq_eq_false_iff_ne.2 e2
                  clear e1 e2 hlt' hj2 hm2 h3
                  go_wp2_with (first
                  | (guard_target = Go.wpList _ _ _ ((⟨some 103, .load _ (.tmp 102), _, _, _, _⟩ : Go.Oper) :: _) _ _; refine step_mvAt rfl _ rfl g3 j _ rfl (by first | omega | (simp; omega)) ⟨(c : Int), t2, q2⟩ (HE.out.get HX2.out) ?_)
                  | (guard_target = Go.wpList _ _ _ ((⟨some 9, .alloc _, _, _, _, _⟩ : Go.Oper) :: _) _ _; refine blk_alloc rfl 36 rfl (mvA mv0) zeroMv ?_; intro b9 wn N R; have HG9 := Lib.hid (show w.heap.size ≤ b9 by have := HB.out.size; have := N.at_; omega); have HZ1 := Lib.hid (show b1 ≠ b9 from Nat.ne_of_lt (by have h1 := HR1.out.lt; have := N.at_; omega)); have HZ3 := Lib.hid (show g3 ≠ b9 from Nat.ne_of_lt (by have h1 := Pms.lt HE.out HX.out; have := N.at_; omega)); have HR1 := Lib.hid (HR1.out.later N.below); have HE := Lib.hid (HE.out.later N.below); have HZ5 := Lib.hid (show b5 ≠ b9 from Nat.ne_of_lt (by have h1 := Blk.lt HM5.out; have := N.at_; omega)); have HM5 := Lib.hid (HM5.out.later N.below); have HM9 := Lib.hid R; have HB := Lib.hid (below_on HB.out N.below); clear N R)
                  | (guard_target = Go.wpList _ _ _ ((⟨none, .store _ (.tmp 9) _, _, _, _, _⟩ : Go.Oper) :: _) _ _; refine blk_store rfl 36 _ _ rfl b9 rfl (mvA mv0) (pmA ⟨(c : Int), t2, q2⟩) rfl HM9.out rfl (pm_one _) sizePm ?_; intro wn U R; have HR1 := Lib.hid (HR1.out.apart U HZ1.out); have HE := Lib.hid (Pms.upd HE.out U HZ3.out); have HM5 := Lib.hid (HM5.out.apart U HZ5.out); have HM9 := Lib.hid R; have HB := Lib.hid (HB.out.trans (U.below HG9.out)); clear U R)
                  | (guard_target = Go.wpList _ _ _ ((⟨some 105, .load _ (.tmp 104), _, _, _, _⟩ : Go.Oper) :: _) _ _; refine step_get rfl 26 _ rfl b9 0 rfl Tryd.underlying26 rfl (.int .i8 (c : Int)) ?_ ?_; exact (HM9.out.cell 0).trans rfl)
                  | (guard_target = Go.wpList _ _ _ ((⟨some 107, .load _ (.tmp 106), _, _, _, _⟩ : Go.Oper) :: _) _ _; refine step_get rfl 26 _ rfl b5 0 rfl Tryd.underlying26 rfl (.int .i8 (a : Int)) ?_ ?_; exact (HM5.out.cell 0).trans rfl)
                  | (guard_target = Go.wpList _ _ _ ((⟨some 111, .load _ (.tmp 110), _, _, _, _⟩ : Go.Oper) :: _) _ _; refine step_get rfl 26 _ rfl b9 0 rfl Tryd.underlying26 rfl (.int .i8 (c : Int)) ?_ ?_; exact (HM9.out.cell 0).trans rfl)
                  | (guard_target = Go.wpList _ _ _ ((⟨some 113, .load _ (.tmp 112), _, _, _, _⟩ : Go.Oper) :: _) _ _; refine step_get rfl 26 _ rfl b5 0 rfl Tryd.underlying26 rfl (.int .i8 (a : Int)) ?_ ?_; exact (HM5.out.cell 0).trans rfl)
                  | (guard_target = Go.wpList _ _ _ ((⟨some 117, .load _ (.tmp 116), _, _, _, _⟩ : Go.Oper) :: _) _ _; refine step_get rfl 26 _ rfl b9 1 rfl Tryd.underlying26 rfl (.int .i8 (t2 : Int)) ?_ ?_; exact (HM9.out.cell 1).trans rfl)
                  | (guard_target = Go.wpList _ _ _ ((⟨some 119, .load _ (.tmp 118), _, _, _, _⟩ : Go.Oper) :: _) _ _; refine step_get rfl 26 _ rfl b5 1 rfl Tryd.underlying26 rfl (.int .i8 (t : Int)) ?_ ?_; exact (HM5.out.cell 1).trans rfl)
                  | (guard_target = Go.wpList _ _ _ ((⟨some 123, .load _ (.tmp 122), _, _, _, _⟩ : Go.Oper) :: _) _ _; refine step_get rfl 26 _ rfl b9 1 rfl Tryd.underlying26 rfl (.int .i8 (t2 : Int)) ?_ ?_; exact (HM9.out.cell 1).trans rfl)
                  | (guard_target = Go.wpList _ _ _ ((⟨some 125, .load _ (.tmp 124), _, _, _, _⟩ : Go.Oper) :: _) _ _; refine step_get rfl 26 _ rfl b5 1 rfl Tryd.underlying26 rfl (.int .i8 (t : Int)) ?_ ?_; exact (HM5.out.cell 1).trans rfl)
                  | (guard_target = Go.wpList _ _ _ ((⟨some 129, .load _ (.tmp 128), _, _, _, _⟩ : Go.Oper) :: _) _ _; refine step_get rfl 5 _ rfl b9 2 rfl Tryd.underlying5 rfl (.int .u8 (q2 : Int)) ?_ ?_; exact (HM9.out.cell 2).trans rfl)
                  | (guard_target = Go.wpList _ _ _ ((⟨some 131, .load _ (.tmp 130), _, _, _, _⟩ : Go.Oper) :: _) _ _; refine step_get rfl 5 _ rfl b5 2 rfl Tryd.underlying5 rfl (.int .u8 (q : Int)) ?_ ?_; exact (HM5.out.cell 2).trans rfl))
                  go_round
                  case rel => exact ⟨k + 1, by omega, by go_num, HR1.out, HE.out, HB.out⟩
                  case measure => simp [intOf]; omega
              · have g1 : ((c : Int) == (a : Int)) = false := beq_eq_false_iff_ne.2 (by omega)
                have g1' : (c == a) = false := beq_eq_false_iff_ne.2 e1
                clear e1 hlt' hj2 hm2 h2 h2' h3
                go_wp2_with (first
                | (guard_target = Go.wpList _ _ _ ((⟨some 103, .load _ (.tmp 102), _, _, _, _⟩ : Go.Oper) :: _) _ _; refine step_mvAt rfl _ rfl g3 j _ rfl (by first | omega | (simp; omega)) ⟨(c : Int), t2, q2⟩ (HE.out.get HX2.out) ?_)
                | (guard_target = Go.wpList _ _ _ ((⟨some 9, .alloc _, _, _, _, _⟩ : Go.Oper) :: _) _ _; refine blk_alloc rfl 36 rfl (mvA mv0) zeroMv ?_; intro b9 wn N R; have HG9 := Lib.hid (show w.heap.size ≤ b9 by have := HB.out.size; have := N.at_; omega); have HZ1 := Lib.hid (show b1 ≠ b9 from Nat.ne_of_lt (by have h1 := HR1.out.lt; have := N.at_; omega)); have HZ3 := Lib.hid (show g3 ≠ b9 from Nat.ne_of_lt (by have h1 := Pms.lt HE.out HX.out; have := N.at_; omega)); have HR1 := Lib.hid (HR1.out.later N.below); have HE := Lib.hid (HE.out.later N.below); have HZ5 := Lib.hid (show b5 ≠ b9 from Nat.ne_of_lt (by have h1 := Blk.lt HM5.out; have := N.at_; omega)); have HM5 := Lib.hid (HM5.out.later N.below); have HM9 := Lib.hid R; have HB := Lib.hid (below_on HB.out N.below); clear N R)
                | (guard_target = Go.wpList _ _ _ ((⟨none, .store _ (.tmp 9) _, _, _, _, _⟩ : Go.Oper) :: _) _ _; refine blk_store rfl 36 _ _ rfl b9 rfl (mvA mv0) (pmA ⟨(c : Int), t2, q2⟩) rfl HM9.out rfl (pm_one _) sizePm ?_; intro wn U R; have HR1 := Lib.hid (HR1.out.apart U HZ1.out); have HE := Lib.hid (Pms.upd HE.out U HZ3.out); have HM5 := Lib.hid (HM5.out.apart U HZ5.out); have HM9 := Lib.hid R; have HB := Lib.hid (HB.out.trans (U.below HG9.out)); clear U R)
                | (guard_target = Go.wpList _ _ _ ((⟨some 105, .load _ (.tmp 104), _, _, _, _⟩ : Go.Oper) :: _) _ _; refine step_get rfl 26 _ rfl b9 0 rfl Tryd.underlying26 rfl (.int .i8 (c : Int)) ?_ ?_; exact (HM9.out.cell 0).trans rfl)
                | (guard_target = Go.wpList _ _ _ ((⟨some 107, .load _ (.tmp 106), _, _, _, _⟩ : Go.Oper) :: _) _ _; refine step_get rfl 26 _ rfl b5 0 rfl Tryd.underlying26 rfl (.int .i8 (a : Int)) ?_ ?_; exact (HM5.out.cell 0).trans rfl)
                | (guard_target = Go.wpList _ _ _ ((⟨some 111, .load _ (.tmp 110), _, _, _, _⟩ : Go.Oper) :: _) _ _; refine step_get rfl 26 _ rfl b9 0 rfl Tryd.underlying26 rfl (.int .i8 (c : Int)) ?_ ?_; exact (HM9.out.cell 0).trans rfl)
                | (guard_target = Go.wpList _ _ _ ((⟨some 113, .load _ (.tmp 112), _, _, _, _⟩ : Go.Oper) :: _) _ _; refine step_get rfl 26 _ rfl b5 0 rfl Tryd.underlying26 rfl (.int .i8 (a : Int)) ?_ ?_; exact (HM5.out.cell 0).trans rfl)
                | (guard_target = Go.wpList _ _ _ ((⟨some 117, .load _ (.tmp 116), _, _, _, _⟩ : Go.Oper) :: _) _ _; refine step_get rfl 26 _ rfl b9 1 rfl Tryd.underlying26 rfl (.int .i8 (t2 : Int)) ?_ ?_; exact (HM9.out.cell 1).trans rfl)
                | (guard_target = Go.wpList _ _ _ ((⟨some 119, .load _ (.tmp 118), _, _, _, _⟩ : Go.Oper) :: _) _ _; refine step_get rfl 26 _ rfl b5 1 rfl Tryd.underlying26 rfl (.int .i8 (t : Int)) ?_ ?_; exact (HM5.out.cell 1).trans rfl)
                | (guard_target = Go.wpList _ _ _ ((⟨some 123, .load _ (.tmp 122), _, _, _, _⟩ : Go.Oper) :: _) _ _; refine step_get rfl 26 _ rfl b9 1 rfl Tryd.underlying26 rfl (.int .i8 (t2 : Int)) ?_ ?_; exact (HM9.out.cell 1).trans rfl)
                | (guard_target = Go.wpList _ _ _ ((⟨some 125, .load _ (.tmp 124), _, _, _, _⟩ : Go.Oper) :: _) _ _; refine step_get rfl 26 _ rfl b5 1 rfl Tryd.underlying26 rfl (.int .i8 (t : Int)) ?_ ?_; exact (HM5.out.cell 1).trans rfl)
                | (guard_target = Go.wpList _ _ _ ((⟨some 129, .load _ (.tmp 128), _, _, _, _⟩ : Go.Oper) :: _) _ _; refine step_get rfl 5 _ rfl b9 2 rfl Tryd.underlying5 rfl (.int .u8 (q2 : Int)) ?_ ?_; exact (HM9.out.cell 2).trans rfl)
                | (guard_target = Go.wpList _ _ _ ((⟨some 131, .load _ (.tmp 130), _, _, _, _⟩ : Go.Oper) :: _) _ _; refine step_get rfl 5 _ rfl b5 2 rfl Tryd.underlying5 rfl (.int .u8 (q : Int)) ?_ ?_; exact (HM5.out.cell 2).trans rfl))
                go_round
                case rel => exact ⟨k + 1, by omega, by go_num, HR1.out, HE.out, HB.out⟩
                case measure => simp [intOf]; omega
      · obtain rfl : k = L.length := by omega
        go_wp2_with (go_at_call 10; refine (ps_awake _ (HT.out.on HB.out) (HK.out.on HB.out)).mono ?_; rintro e w4 ⟨rfl, hb⟩; have HB := Lib.hid (below_on HB.out hb); clear hb)
        go_ret
        exact ⟨rfl, HB.out⟩
end Go.Proofs.YtfdheeogpndklaaDoor
