/-
  The walk of CastleRights.
-/
import Derived.Test.YtmlmilmfnioheaaDoorCsS
import Derived.Test.YtmlmilmfnioheaaDoorCsH
import Derived.WalkKit
import Derived.OpenShut
namespace Go.Proofs.YtmlmilmfnioheaaDoor.castleRights
open Go.RowKit
set_option linter.unusedVariables false
set_option linter.unusedSimpArgs false
theorem sideK {p : Nat → Int} {m : Mv} {n : Int} (h : sdC (p 78) m = n) (w : World) (hm : FitV m) : Calls Tryd.prog 14 #[.agg (posA p), .agg (mvA m)] w (IntL n w) := h ▸ cs_side p m w hm
set_option maxRecDepth 100000 in
set_option maxHeartbeats 6000000 in
theorem rights_0 (p : Nat → Int) (w : World) (hp : CsR p) (hT : CsT w) (h78 : p 78 ≤ 1) : Calls Tryd.prog 6 #[.agg (posA p), .bool false] w fun e w' => e = .returned (.bool true) ∧ Below w.heap.size w w' := by
  have HT := Lib.hid hT
  have HP := Lib.hid hp
  have ht0 := hp.at_.turn.1
  obtain ⟨c, hc⟩ : ∃ c : Nat, p 78 = (c : Int) := ⟨(p 78).toNat, by omega⟩
  have hc2 : c < 2 := by omega
  have HC := Lib.hid hc
  have HC2 := Lib.hid hc2
  have q0 : decide (1 < p 78) = false := decide_eq_false (by omega)
  obtain ⟨L, hL⟩ : ∃ L, camL p = L := ⟨_, rfl⟩
  obtain ⟨QA, hQA⟩ : ∃ QA, upd p (79 + c * 2 + 0) (-1) = QA := ⟨_, rfl⟩
  obtain ⟨QB, hQB⟩ : ∃ QB, over p (79 + c * 2) 2 (fun _ => -1) = QB := ⟨_, rfl⟩
  obtain ⟨LA, hLA⟩ : ∃ LA, camL QA = LA := ⟨_, rfl⟩
  have HQA := Lib.hid hQA
  have HQB := Lib.hid hQB
  have hAA : Agr p QA := by rw [← hQA]; exact agr_upd (by omega)
  have hAB : Agr p QB := by rw [← hQB]; intro j hj; unfold over; rw [if_neg (by omega)]
  have HPA := Lib.hid (show CsR QA from hp.agr hAA fun i hi => by
    rw [← hQA]; unfold upd; split
    · omega
    · exact hp.rk i hi)
  have HPB := Lib.hid (show CsR QB from hp.agr hAB fun i hi => by
    rw [← hQB]; unfold over; split
    · show -128 ≤ (-1 : Int) ∧ (-1 : Int) ≤ 127; omega
    · exact hp.rk i hi)
  obtain ⟨fk, HFk⟩ : ∃ fk : Mv → Bool, Hid (∀ m, fk m = notK p 0 m) := ⟨_, Lib.hid fun _ => rfl⟩
  have HFl := Lib.hid (show L.filter fk = LA by
    rw [show fk = notK p 0 from funext HFk.out, ← hL, ← hLA]
    refine (cam_less ht0 (k := 0) (by decide) hAA ?_ ?_).symm
    · rw [fl_eq (c := c) (by rw [hAA _ (by omega)]; exact hc), ← hQA]; exact upd_same _ _ _
    · rw [fl_eq (c := c) (by rw [hAA _ (by omega)]; exact hc), fl_eq hc, ← hQA]; exact upd_other _ _ _ _ (by omega))
  have HLB := Lib.hid (show camL QB = [] from cam_none hAB
    (by rw [fl_eq (c := c) (by rw [hAB _ (by omega)]; exact hc), ← hQB]; unfold over; rw [if_pos (by omega)])
    (by rw [fl_eq (c := c) (by rw [hAB _ (by omega)]; exact hc), ← hQB]; unfold over; rw [if_pos (by omega)]))
  have HL := Lib.hid hL
  have HLA := Lib.hid hLA
  have HVf := Lib.hid (show ∀ (i : Nat) (m : Mv), L[i]? = some m → FitV m by rw [← hL]; exact fun i m h => cam_fit HP.out.at_.turn.1 (List.mem_of_getElem? h))
  have HLn := Lib.hid (show L.length ≤ 2 by rw [← hL]; exact cam_len p)
  have HLA2 := Lib.hid (show LA.length ≤ 2 by rw [← hLA]; exact cam_len _)
  clear hp hT hL hQA hQB hLA hAA hAB hc h78 ht0
  have HB := Lib.hid (Below.refl w.heap.size w)
  go_enter Tryd.func6, Tryd.ntmps6
  go_wp2_with (first
      | (guard_target = Go.wpList _ _ _ ((⟨some 2, .box _ _, _, _, _, _⟩ : Go.Oper) :: _) _ _; refine step_box rfl _ rfl p rfl ?_; intro b2 w1 N R; have HG2 := Lib.hid (show w.heap.size ≤ b2 by have := HB.out.size; have := N.at_; omega); have HB := Lib.hid (below_on HB.out N.below); have HR2 := Lib.hid R; clear N R)
      | (guard_target = Go.wpList _ _ _ ((⟨some 13, .load _ (.tmp 12), _, _, _, _⟩ : Go.Oper) :: _) _ _; refine step_get rfl 5 _ rfl b2 78 rfl Tryd.underlying5 rfl (.int .u8 (p 78)) ?_ ?_; exact HR2.out.cell 78 (by decide)))
  obtain ⟨wx0, hwx⟩ : ∃ wx0, wx0 = w1 := ⟨_, rfl⟩
  have HW0 := Lib.hid (show w.heap.size ≤ wx0.heap.size by rw [hwx]; exact HB.out.size)
  have HL1 := Lib.hid (show b2 < wx0.heap.size by rw [hwx]; exact HR2.out.lt)
  have HX0 := Lib.hid (show Below wx0.heap.size wx0 w1 by rw [hwx]; exact Below.refl _ _)
  clear hwx
  have HFm := Lib.hid (by kernel_rfl : Tryd.prog.follows .mixedOrders = true)
  refine (wpIn_wide (n := 1)).1 ?_
  refine Wid.mid_begin (X := (wx0.heap.size ≤ ·)) HFm.out ?_
  refine Wid.mid_take 0 (by kernel_rfl) (by kernel_rfl) (by kernel_rfl) (by kernel_rfl) (by kernel_rfl) (fun _ _ d _ _ h => by cases d <;> exact h) (fun o ho => ?_)
  simp only [qa, qb, qc, qd] at ho; subst ho
  refine ⟨_, Or.inl ⟨by kernel_rfl, fun w' hl => run_load _ rfl _ rfl p (show Row w' b2 p from (hl.same b2 HR2.out.lt (Nat.not_le.2 HL1.out)).trans HR2.out)⟩, ?_⟩
  simp only [Act.put, pa, pb, pc]
  refine Wid.mid_take 1 (by kernel_rfl) (by kernel_rfl) (by kernel_rfl) (by kernel_rfl) (by kernel_rfl) (fun _ _ d _ _ h => by cases d <;> exact h) (fun o ho => ?_)
  simp only [qa, qb, qc, qd] at ho; subst ho
  refine ⟨_, Or.inl ⟨by kernel_rfl, fun w' hl => run_load _ rfl _ rfl p (show Row w' b2 p from (hl.same b2 HR2.out.lt (Nat.not_le.2 HL1.out)).trans HR2.out)⟩, ?_⟩
  simp only [Act.put, pa, pb, pc]
  refine mid_some [2, 3] (by kernel_rfl) (by kernel_rfl) (by simp) (by kernel_rfl) (fun i hi => ?_)
  simp only [List.mem_cons, List.not_mem_nil, or_false] at hi
  rcases hi with rfl | rfl
  · intro o ho
    simp only [qa, qb, qc, qd] at ho; subst ho
    refine ⟨by kernel_rfl, fun wn hl Kx hKx => ?_⟩
    have HX0 := Lib.hid (HX0.out.trans (hl.mono HX0.out.size))
    have HR2 := Lib.hid (HR2.out.later hl); have HB := Lib.hid (below_on HB.out hl); clear hl
    refine mid_allocP rfl ?_; intro b6 wm N R
    have HD2_6 := Lib.hid (show b2 ≠ b6 from Nat.ne_of_lt (by have h1 := HR2.out.lt; have := N.at_; omega))
    have HG6 := Lib.hid (show wx0.heap.size ≤ b6 by have := HX0.out.size; have := N.at_; omega)
    have hb := N.below
    have HRn := Lib.hid R
    clear N R
    refine hKx.out _ _ (Kept.of_call _ hb) ?_
    have HX0 := Lib.hid (HX0.out.trans (hb.mono HX0.out.size))
    have HR2 := Lib.hid (HR2.out.later hb); have HB := Lib.hid (below_on HB.out hb); clear hb
    have HR6 := HRn; clear HRn
    clear hKx Kx
    simp only [Act.put, pa, pb, pc]
    refine Wid.mid_one 3 (by kernel_rfl) (by kernel_rfl) (by kernel_rfl) (fun o ho => ?_)
    simp only [qa, qb, qc, qd] at ho; subst ho
    refine ⟨by kernel_rfl, fun wn hl Kx hKx => ?_⟩
    have HX0 := Lib.hid (HX0.out.trans (hl.mono HX0.out.size))
    have HR2 := Lib.hid (HR2.out.later hl); have HR6 := Lib.hid (HR6.out.later hl); have HB := Lib.hid (below_on HB.out hl); clear hl
    refine mid_allocP rfl ?_; intro b7 wm N R
    have HD2_7 := Lib.hid (show b2 ≠ b7 from Nat.ne_of_lt (by have h1 := HR2.out.lt; have := N.at_; omega))
    have HD6_7 := Lib.hid (show b6 ≠ b7 from Nat.ne_of_lt (by have h1 := HR6.out.lt; have := N.at_; omega))
    have HG7 := Lib.hid (show wx0.heap.size ≤ b7 by have := HX0.out.size; have := N.at_; omega)
    have hb := N.below
    have HRn := Lib.hid R
    clear N R
    refine hKx.out _ _ (Kept.of_call _ hb) ?_
    have HX0 := Lib.hid (HX0.out.trans (hb.mono HX0.out.size))
    have HR2 := Lib.hid (HR2.out.later hb); have HR6 := Lib.hid (HR6.out.later hb); have HB := Lib.hid (below_on HB.out hb); clear hb
    have HR7 := HRn; clear HRn
    clear hKx Kx
    simp only [Act.put, pa, pb, pc]
    have HD7_6 := Lib.hid (Ne.symm HD6_7.out)
    refine Wid.mid_one 4 (by kernel_rfl) (by kernel_rfl) (by kernel_rfl) (fun o ho => ?_)
    simp only [qa, qb, qc, qd] at ho; subst ho
    refine ⟨by kernel_rfl, fun wn hl Kx hKx => ?_⟩
    have HR2 := Lib.hid (HR2.out.later hl); have HR6 := Lib.hid (HR6.out.later hl); have HR7 := Lib.hid (HR7.out.later hl); have HB := Lib.hid (below_on HB.out hl); clear hl
    refine mid_storeP _ _ rfl b6 rfl zeroP p rfl HR6.out ?_; intro wm U R
    have HR2 := Lib.hid (HR2.out.apart U HD2_6.out)
    have HR7 := Lib.hid (HR7.out.apart U HD7_6.out)
    refine hKx.out _ _ (kept_upd U HG6.out) ?_
    have HR6 := Lib.hid R; have HB := Lib.hid (HB.out.trans (U.below (Nat.le_trans HW0.out HG6.out))); clear U R
    clear hKx Kx
    simp only [Act.put, pa, pb, pc]
    refine Wid.mid_one 5 (by kernel_rfl) (by kernel_rfl) (by kernel_rfl) (fun o ho => ?_)
    simp only [qa, qb, qc, qd] at ho; subst ho
    refine ⟨by kernel_rfl, fun wn hl Kx hKx => ?_⟩
    have HR2 := Lib.hid (HR2.out.later hl); have HR6 := Lib.hid (HR6.out.later hl); have HR7 := Lib.hid (HR7.out.later hl); have HB := Lib.hid (below_on HB.out hl); clear hl
    refine mid_storeP _ _ rfl b7 rfl zeroP p rfl HR7.out ?_; intro wm U R
    have HR2 := Lib.hid (HR2.out.apart U HD2_7.out)
    have HR6 := Lib.hid (HR6.out.apart U HD6_7.out)
    refine hKx.out _ _ (kept_upd U HG7.out) ?_
    have HR7 := Lib.hid R; have HB := Lib.hid (HB.out.trans (U.below (Nat.le_trans HW0.out HG7.out))); clear U R
    clear hKx Kx
    simp only [Act.put, pa, pb, pc]
    refine Wid.mid_end (by kernel_rfl) (fun wn hl => ?_)
    have HR2 := Lib.hid (HR2.out.later hl); have HR6 := Lib.hid (HR6.out.later hl); have HR7 := Lib.hid (HR7.out.later hl); have HB := Lib.hid (below_on HB.out hl); clear hl
    go_wp2_with (first
        | (guard_target = Go.wpList _ _ _ ((⟨some _, .load _ (.tmp 25), _, _, _, _⟩ : Go.Oper) :: _) _ _; refine step_get rfl 5 _ rfl b2 78 rfl Tryd.underlying5 rfl (.int .u8 (c : Int)) ?_ ?_; exact (HR2.out.cell 78 (by decide)).trans (by rw [HC.out]; rfl))
        | (guard_target = Go.wpList _ _ _ ((⟨some _, .load _ (.tmp 31), _, _, _, _⟩ : Go.Oper) :: _) _ _; refine step_get rfl 5 _ rfl b2 78 rfl Tryd.underlying5 rfl (.int .u8 (c : Int)) ?_ ?_; exact (HR2.out.cell 78 (by decide)).trans (by rw [HC.out]; rfl))
        | (guard_target = Go.wpList _ _ _ ((⟨none, .store _ (.tmp 30) _, _, _, _, _⟩ : Go.Oper) :: _) _ _; refine step_cell (op := ⟨none, .store _ (.tmp 30) _, _, _, _, _⟩) rfl 26 _ _ rfl b6 (79 + c * 2 + 0) rfl .i8 (-1) rfl _ HR6.out (by omega) (kAt_rk HC2.out (by decide)) size26c ?_; intro wn U R; rw [HQA.out] at R; have HR2 := Lib.hid (HR2.out.apart U HD2_6.out); have HR7 := Lib.hid (HR7.out.apart U HD7_6.out); have HR6 := Lib.hid R; have HB := Lib.hid (HB.out.trans (U.below (Nat.le_trans HW0.out HG6.out))); clear U R)
        | (guard_target = Go.wpList _ _ _ ((⟨some 33, .build _ _, _, _, _, _⟩ : Go.Oper) :: _) _ _; refine step_build (op := ⟨some 33, .build _ _, _, _, _, _⟩) rfl 27 _ rfl #[.int .i8 (-1), .int .i8 (-1)] (by kernel_rfl) ?_)
        | (guard_target = Go.wpList _ _ _ ((⟨none, .store _ (.tmp 35) _, _, _, _, _⟩ : Go.Oper) :: _) _ _; refine step_write (op := ⟨none, .store _ (.tmp 35) _, _, _, _, _⟩) rfl 27 _ _ rfl b7 (79 + c * 2) 2 rfl p (fun _ => -1) (congrArg Value.agg (mm_part HC2.out)) HR7.out (by omega) size27c ?_; intro wn U R; rw [HQB.out] at R; have HR2 := Lib.hid (HR2.out.apart U HD2_7.out); have HR6 := Lib.hid (HR6.out.apart U HD6_7.out); have HR7 := Lib.hid R; have HB := Lib.hid (HB.out.trans (U.below (Nat.le_trans HW0.out HG7.out))); clear U R)
        | (guard_target = Go.wpList _ _ _ ((⟨some _, .load _ (.tmp 2), _, _, _, _⟩ : Go.Oper) :: _) _ _; refine step_load rfl _ rfl b2 rfl p HR2.out ?_)
        | (guard_target = Go.wpList _ _ _ ((⟨some _, .load _ (.tmp 6), _, _, _, _⟩ : Go.Oper) :: _) _ _; refine step_load rfl _ rfl b6 rfl QA HR6.out ?_)
        | (go_at_call 8; guard_target = Go.Calls _ _ #[Go.Value.agg (posA p)] _ _; refine (list_cs p _ HP.out (HT.out.on HB.out)).mono ?_; rintro e w5 ⟨v, rfl, hv, hb⟩; rw [HL.out] at hv; obtain ⟨a8, c8, rfl, hE⟩ := mvs_of hv; have HEn := Lib.hid hE; have HR2 := Lib.hid (HR2.out.later hb); have HR6 := Lib.hid (HR6.out.later hb); have HR7 := Lib.hid (HR7.out.later hb); have HB := Lib.hid (below_on HB.out hb); have HE := HEn; clear hE hv hb HEn)
        | (go_at_call 8; guard_target = Go.Calls _ _ #[Go.Value.agg (posA QA)] _ _; refine (list_cs QA _ HPA.out (HT.out.on HB.out)).mono ?_; rintro e w5 ⟨v, rfl, hv, hb⟩; rw [HLA.out] at hv; obtain ⟨a9, c9, rfl, hE⟩ := mvs_of hv; have HE2n := Lib.hid hE; have HR2 := Lib.hid (HR2.out.later hb); have HR6 := Lib.hid (HR6.out.later hb); have HR7 := Lib.hid (HR7.out.later hb); have HE := Lib.hid (HE.out.later hb); have HB := Lib.hid (below_on HB.out hb); have HE2 := HE2n; clear hE hv hb HE2n))
    go_loopw [10, 11] (fun v j wr => ∃ i : Nat, i ≤ L.length ∧ j = .int .i64 (i : Int) ∧ v = .int .i64 ((((L.take i).filter fk).length : Nat) : Int) ∧ Mvs L a8 wr ∧ Mvs LA a9 wr ∧ Row wr b2 p ∧ Row wr b7 QB ∧ Below w.heap.size w wr) (fun _ j _ => L.length - (intOf j).toNat)
    case atStart => exact ⟨0, by omega, rfl, rfl, HE.out, HE2.out, HR2.out, HR7.out, HB.out⟩
    case round =>
      clear HR2 HR6 HR7 HE HE2 HB
      obtain ⟨i, hi, rfl, rfl, he, he2, hr2, hr7, hb⟩ := hrel
      have HE := Lib.hid he
      have HE2 := Lib.hid he2
      have HR2 := Lib.hid hr2
      have HR7 := Lib.hid hr7
      have HB := Lib.hid hb
      clear he he2 hr2 hr7 hb
      obtain ⟨n, hn⟩ : ∃ n, ((L.take i).filter fk).length = n := ⟨_, rfl⟩
      have HNn := Lib.hid hn
      have hn2 : n ≤ LA.length := by rw [← HFl.out, ← hn]; exact fl_len _ _ _
      have hn3 : n ≤ 2 := by have := HLA2.out; omega
      by_cases hl2 : i < L.length
      · obtain ⟨m, hm⟩ : ∃ m, L[i]? = some m := ⟨_, List.getElem?_eq_getElem hl2⟩
        obtain ⟨g8, rfl, _⟩ := HE.out.at hm
        have HX := Lib.hid hm
        have HVm := Lib.hid (HVf.out i m hm)
        have HLt := Lib.hid hl2
        have hw1 : (i : Int) < 2 := by have := HLn.out; omega
        obtain ⟨sd, hsd⟩ : ∃ sd, sdC (p 78) m = sd := ⟨_, rfl⟩
        have HSd := Lib.hid hsd
        cases q1 : (sd == 0)
        · have hfk : fk m = true := by rw [HFk.out]; unfold notK; rw [hsd]; show (!(sd == ((0 : Nat) : Int))) = true; rw [show (sd == ((0 : Nat) : Int)) = false from q1]; rfl
          have hx2 := fl_at hm hfk
          rw [HFl.out, hn] at hx2
          have HX2 := Lib.hid hx2
          have hnl : n < LA.length := (List.getElem?_eq_some_iff.1 hx2).1
          obtain ⟨g9, rfl, _⟩ := HE2.out.at hx2
          have HNx := Lib.hid (show ((L.take (i + 1)).filter fk).length = n + 1 by rw [fl_yes hm hfk, List.length_append, hn]; rfl)
          have q2 : decide (LA.length ≤ n) = false := decide_eq_false (by omega)
          have q2' : decide ((LA.length : Int) ≤ (n : Int)) = false := decide_eq_false (by omega)
          rw [hn]
          clear hm hsd hx2 hfk hn hl2 hi
          go_wp2_with fail
          refine late_begin 8 (by kernel_rfl) ?_
          refine ltk 0 (by kernel_rfl) (fun _ _ d _ _ h => by cases d <;> exact h) (fun o ho => ?_)
          simp only [qa, qb, qc, qd] at ho; subst ho
          refine ⟨.agg (posA p), Or.inl ⟨by kernel_rfl, fun w' hl => Or.inl (run_posS _ rfl b2 rfl p (HR2.out.later hl))⟩, ?_⟩
          simp only [Act.put, pa, pb, pc]
          refine ltk 1 (by kernel_rfl) (fun _ _ d _ _ h => by cases d <;> exact h) (fun o ho => ?_)
          simp only [qa, qb, qc, qd] at ho; subst ho
          apply Exists.intro
          refine ⟨Or.inl ⟨by kernel_rfl, fun w' hl => Or.inl ?_⟩, ?_⟩
          · (go_simp; try with_reducible rfl)
          simp only [Act.put, pa, pb, pc]
          refine ltk 2 (by kernel_rfl) (fun _ _ d _ _ h => by cases d <;> exact h) (fun o ho => ?_)
          simp only [qa, qb, qc, qd] at ho; subst ho
          apply Exists.intro
          refine ⟨Or.inl ⟨by kernel_rfl, fun w' hl => Or.inl ?_⟩, ?_⟩
          · (go_simp; try with_reducible rfl)
          simp only [Act.put, pa, pb, pc]
          refine ltk 3 (by kernel_rfl) (fun _ _ d _ _ h => by cases d <;> exact h) (fun o ho => ?_)
          simp only [qa, qb, qc, qd] at ho; subst ho
          refine ⟨.pointer (some ⟨g8, i * 5, none⟩), Or.inl ⟨by kernel_rfl, fun w' hl => Or.inl ?_⟩, ?_⟩
          · (go_simp <;> (intro hbad; omega))
          simp only [Act.put, pa, pb, pc]
          refine ltk 4 (by kernel_rfl) (fun _ _ d _ _ h => by cases d <;> exact h) (fun o ho => ?_)
          simp only [qa, qb, qc, qd] at ho; subst ho
          refine ⟨.agg (mvA m), Or.inl ⟨by kernel_rfl, fun w' hl => Or.inl (run_mvK _ rfl g8 i _ rfl (by first | omega | (simp; omega)) m ((HE.out.later hl).get HX.out))⟩, ?_⟩
          simp only [Act.put, pa, pb, pc]
          refine ltk 6 (by kernel_rfl) (fun _ _ d _ _ h => by cases d <;> exact h) (fun o ho => ?_)
          simp only [qa, qb, qc, qd] at ho; subst ho
          apply Exists.intro
          refine ⟨Or.inl ⟨by kernel_rfl, fun w' hl => Or.inl ?_⟩, ?_⟩
          · (go_simp; try with_reducible rfl)
          simp only [Act.put, pa, pb, pc]
          refine late_one 5 (by kernel_rfl) (by kernel_rfl) (fun o ho => ?_)
          simp only [qa, qb, qc, qd] at ho; subst ho
          refine ⟨by kernel_rfl, fun wn hl K hK => ?_⟩
          have HR2 := Lib.hid (HR2.out.later hl); have HR7 := Lib.hid (HR7.out.later hl); have HE := Lib.hid (HE.out.later hl); have HE2 := Lib.hid (HE2.out.later hl); have HB := Lib.hid (below_on HB.out hl); clear hl
          refine wp_enter _ _ (by go_simp; exact ⟨rfl, rfl⟩) ?_
          refine (sideK HSd.out _ HVm.out).mono ?_; rintro e wm ⟨rfl, hb⟩; refine ⟨_, rfl, ?_⟩
          refine hK.out _ _ hb ?_
          have HR2 := Lib.hid (HR2.out.later hb); have HR7 := Lib.hid (HR7.out.later hb); have HE := Lib.hid (HE.out.later hb); have HE2 := Lib.hid (HE2.out.later hb); have HB := Lib.hid (below_on HB.out hb); clear hb
          clear hK K
          simp only [Act.put, pa, pb, pc]
          refine ltk 7 (by kernel_rfl) (fun _ _ d _ _ h => by cases d <;> exact h) (fun o ho => ?_)
          simp only [qa, qb, qc, qd] at ho; subst ho
          apply Exists.intro
          refine ⟨Or.inl ⟨by kernel_rfl, fun w' hl => Or.inl ?_⟩, ?_⟩
          · (go_simp; try with_reducible rfl)
          simp only [Act.put, pa, pb, pc]
          refine late_end (by kernel_rfl) (fun wn hl => ?_)
          have HR2 := Lib.hid (HR2.out.later hl); have HR7 := Lib.hid (HR7.out.later hl); have HE := Lib.hid (HE.out.later hl); have HE2 := Lib.hid (HE2.out.later hl); have HB := Lib.hid (below_on HB.out hl); clear hl
          go_wp2_with fail
          refine late_begin 15 (by kernel_rfl) ?_
          refine ltk 0 (by kernel_rfl) (fun _ _ d _ _ h => by cases d <;> exact h) (fun o ho => ?_)
          simp only [qa, qb, qc, qd] at ho; subst ho
          apply Exists.intro
          refine ⟨Or.inl ⟨by kernel_rfl, fun w' hl => Or.inl ?_⟩, ?_⟩
          · (go_simp; try with_reducible rfl)
          simp only [Act.put, pa, pb, pc]
          refine ltk 1 (by kernel_rfl) (fun _ _ d _ _ h => by cases d <;> exact h) (fun o ho => ?_)
          simp only [qa, qb, qc, qd] at ho; subst ho
          apply Exists.intro
          refine ⟨Or.inl ⟨by kernel_rfl, fun w' hl => Or.inl ?_⟩, ?_⟩
          · (go_simp; try with_reducible rfl)
          simp only [Act.put, pa, pb, pc]
          refine ltk 2 (by kernel_rfl) (fun _ _ d _ _ h => by cases d <;> exact h) (fun o ho => ?_)
          simp only [qa, qb, qc, qd] at ho; subst ho
          apply Exists.intro
          refine ⟨Or.inl ⟨by kernel_rfl, fun w' hl => Or.inl ?_⟩, ?_⟩
          · (go_simp; try with_reducible rfl)
          simp only [Act.put, pa, pb, pc]
          refine ltk 3 (by kernel_rfl) (fun _ _ d _ _ h => by cases d <;> exact h) (fun o ho => ?_)
          simp only [qa, qb, qc, qd] at ho; subst ho
          apply Exists.intro
          refine ⟨Or.inl ⟨by kernel_rfl, fun w' hl => Or.inl ?_⟩, ?_⟩
          · (go_simp; try with_reducible rfl)
          simp only [Act.put, pa, pb, pc]
          refine ltk 4 (by kernel_rfl) (fun _ _ d _ _ h => by cases d <;> exact h) (fun o ho => ?_)
          simp only [qa, qb, qc, qd] at ho; subst ho
          apply Exists.intro
          refine ⟨Or.inl ⟨by kernel_rfl, fun w' hl => Or.inl ?_⟩, ?_⟩
          · (go_simp; try with_reducible rfl)
          simp only [Act.put, pa, pb, pc]
          refine ltk 5 (by kernel_rfl) (fun _ _ d _ _ h => by cases d <;> exact h) (fun o ho => ?_)
          simp only [qa, qb, qc, qd] at ho; subst ho
          apply Exists.intro
          refine ⟨Or.inl ⟨by kernel_rfl, fun w' hl => Or.inl ?_⟩, ?_⟩
          · (go_simp; try with_reducible rfl)
          simp only [Act.put, pa, pb, pc]
          refine ltk 6 (by kernel_rfl) (fun _ _ d _ _ h => by cases d <;> exact h) (fun o ho => ?_)
          simp only [qa, qb, qc, qd] at ho; subst ho
          apply Exists.intro
          refine ⟨Or.inl ⟨by kernel_rfl, fun w' hl => Or.inl ?_⟩, ?_⟩
          · (go_simp; try with_reducible rfl)
          simp only [Act.put, pa, pb, pc]
          refine ltk 7 (by kernel_rfl) (fun _ _ d _ _ h => by cases d <;> exact h) (fun o ho => ?_)
          simp only [qa, qb, qc, qd] at ho; subst ho
          refine ⟨.pointer (some ⟨g9, n * 5, none⟩), Or.inl ⟨by kernel_rfl, fun w' hl => Or.inl ?_⟩, ?_⟩
          · (go_simp <;> (intro hbad; omega))
          simp only [Act.put, pa, pb, pc]
          refine ltk 8 (by kernel_rfl) (fun _ _ d _ _ h => by cases d <;> exact h) (fun o ho => ?_)
          simp only [qa, qb, qc, qd] at ho; subst ho
          refine ⟨.agg (mvA m), Or.inl ⟨by kernel_rfl, fun w' hl => Or.inl (run_mvK _ rfl g9 n _ rfl (by first | omega | (simp; omega)) m ((HE2.out.later hl).get HX2.out))⟩, ?_⟩
          simp only [Act.put, pa, pb, pc]
          refine ltk 9 (by kernel_rfl) (fun _ _ d _ _ h => by cases d <;> exact h) (fun o ho => ?_)
          simp only [qa, qb, qc, qd] at ho; subst ho
          apply Exists.intro
          refine ⟨Or.inl ⟨by kernel_rfl, fun w' hl => Or.inl ?_⟩, ?_⟩
          · (go_simp; try with_reducible rfl)
          simp only [Act.put, pa, pb, pc]
          refine ltk 10 (by kernel_rfl) (fun _ _ d _ _ h => by cases d <;> exact h) (fun o ho => ?_)
          simp only [qa, qb, qc, qd] at ho; subst ho
          apply Exists.intro
          refine ⟨Or.inl ⟨by kernel_rfl, fun w' hl => Or.inl ?_⟩, ?_⟩
          · (go_simp; try with_reducible rfl)
          simp only [Act.put, pa, pb, pc]
          refine ltk 11 (by kernel_rfl) (fun _ _ d _ _ h => by cases d <;> exact h) (fun o ho => ?_)
          simp only [qa, qb, qc, qd] at ho; subst ho
          refine ⟨.pointer (some ⟨g8, i * 5, none⟩), Or.inl ⟨by kernel_rfl, fun w' hl => Or.inl ?_⟩, ?_⟩
          · (go_simp <;> (intro hbad; omega))
          simp only [Act.put, pa, pb, pc]
          refine ltk 12 (by kernel_rfl) (fun _ _ d _ _ h => by cases d <;> exact h) (fun o ho => ?_)
          simp only [qa, qb, qc, qd] at ho; subst ho
          refine ⟨.agg (mvA m), Or.inl ⟨by kernel_rfl, fun w' hl => Or.inl (run_mvK _ rfl g8 i _ rfl (by first | omega | (simp; omega)) m ((HE.out.later hl).get HX.out))⟩, ?_⟩
          simp only [Act.put, pa, pb, pc]
          refine ltk 13 (by kernel_rfl) (fun _ _ d _ _ h => by cases d <;> exact h) (fun o ho => ?_)
          simp only [qa, qb, qc, qd] at ho; subst ho
          refine ⟨.bool false, Or.inl ⟨by kernel_rfl, fun w' hl => Or.inl (run_mvN _ _ rfl m m rfl rfl HVm.out HVm.out true (mvE_true.2 rfl))⟩, ?_⟩
          simp only [Act.put, pa, pb, pc]
          refine ltk 14 (by kernel_rfl) (fun _ _ d _ _ h => by cases d <;> exact h) (fun o ho => ?_)
          simp only [qa, qb, qc, qd] at ho; subst ho
          apply Exists.intro
          refine ⟨Or.inl ⟨by kernel_rfl, fun w' hl => Or.inl ?_⟩, ?_⟩
          · (go_simp; try with_reducible rfl)
          simp only [Act.put, pa, pb, pc]
          refine late_end (by kernel_rfl) (fun wn hl => ?_)
          have HR2 := Lib.hid (HR2.out.later hl); have HR7 := Lib.hid (HR7.out.later hl); have HE := Lib.hid (HE.out.later hl); have HE2 := Lib.hid (HE2.out.later hl); have HB := Lib.hid (below_on HB.out hl); clear hl
          go_wp2_with fail
          go_roundw
          case rel => exact ⟨i + 1, by have := HLt.out; omega, by go_num, by rw [HNx.out]; go_num, HE.out, HE2.out, HR2.out, HR7.out, HB.out⟩
          case measure => simp [intOf]; have := HLt.out; omega
        · have hfk : fk m = false := by rw [HFk.out]; unfold notK; rw [hsd]; show (!(sd == ((0 : Nat) : Int))) = false; rw [show (sd == ((0 : Nat) : Int)) = true from q1]; rfl
          have HNx := Lib.hid (show ((L.take (i + 1)).filter fk).length = n by rw [fl_no hm hfk, hn])
          rw [hn]
          clear hm hsd hfk hn hl2 hi
          go_wp2_with fail
          refine late_begin 8 (by kernel_rfl) ?_
          refine ltk 0 (by kernel_rfl) (fun _ _ d _ _ h => by cases d <;> exact h) (fun o ho => ?_)
          simp only [qa, qb, qc, qd] at ho; subst ho
          refine ⟨.agg (posA p), Or.inl ⟨by kernel_rfl, fun w' hl => Or.inl (run_posS _ rfl b2 rfl p (HR2.out.later hl))⟩, ?_⟩
          simp only [Act.put, pa, pb, pc]
          refine ltk 1 (by kernel_rfl) (fun _ _ d _ _ h => by cases d <;> exact h) (fun o ho => ?_)
          simp only [qa, qb, qc, qd] at ho; subst ho
          apply Exists.intro
          refine ⟨Or.inl ⟨by kernel_rfl, fun w' hl => Or.inl ?_⟩, ?_⟩
          · (go_simp; try with_reducible rfl)
          simp only [Act.put, pa, pb, pc]
          refine ltk 2 (by kernel_rfl) (fun _ _ d _ _ h => by cases d <;> exact h) (fun o ho => ?_)
          simp only [qa, qb, qc, qd] at ho; subst ho
          apply Exists.intro
          refine ⟨Or.inl ⟨by kernel_rfl, fun w' hl => Or.inl ?_⟩, ?_⟩
          · (go_simp; try with_reducible rfl)
          simp only [Act.put, pa, pb, pc]
          refine ltk 3 (by kernel_rfl) (fun _ _ d _ _ h => by cases d <;> exact h) (fun o ho => ?_)
          simp only [qa, qb, qc, qd] at ho; subst ho
          refine ⟨.pointer (some ⟨g8, i * 5, none⟩), Or.inl ⟨by kernel_rfl, fun w' hl => Or.inl ?_⟩, ?_⟩
          · (go_simp <;> (intro hbad; omega))
          simp only [Act.put, pa, pb, pc]
          refine ltk 4 (by kernel_rfl) (fun _ _ d _ _ h => by cases d <;> exact h) (fun o ho => ?_)
          simp only [qa, qb, qc, qd] at ho; subst ho
          refine ⟨.agg (mvA m), Or.inl ⟨by kernel_rfl, fun w' hl => Or.inl (run_mvK _ rfl g8 i _ rfl (by first | omega | (simp; omega)) m ((HE.out.later hl).get HX.out))⟩, ?_⟩
          simp only [Act.put, pa, pb, pc]
          refine ltk 6 (by kernel_rfl) (fun _ _ d _ _ h => by cases d <;> exact h) (fun o ho => ?_)
          simp only [qa, qb, qc, qd] at ho; subst ho
          apply Exists.intro
          refine ⟨Or.inl ⟨by kernel_rfl, fun w' hl => Or.inl ?_⟩, ?_⟩
          · (go_simp; try with_reducible rfl)
          simp only [Act.put, pa, pb, pc]
          refine late_one 5 (by kernel_rfl) (by kernel_rfl) (fun o ho => ?_)
          simp only [qa, qb, qc, qd] at ho; subst ho
          refine ⟨by kernel_rfl, fun wn hl K hK => ?_⟩
          have HR2 := Lib.hid (HR2.out.later hl); have HR7 := Lib.hid (HR7.out.later hl); have HE := Lib.hid (HE.out.later hl); have HE2 := Lib.hid (HE2.out.later hl); have HB := Lib.hid (below_on HB.out hl); clear hl
          refine wp_enter _ _ (by go_simp; exact ⟨rfl, rfl⟩) ?_
          refine (sideK HSd.out _ HVm.out).mono ?_; rintro e wm ⟨rfl, hb⟩; refine ⟨_, rfl, ?_⟩
          refine hK.out _ _ hb ?_
          have HR2 := Lib.hid (HR2.out.later hb); have HR7 := Lib.hid (HR7.out.later hb); have HE := Lib.hid (HE.out.later hb); have HE2 := Lib.hid (HE2.out.later hb); have HB := Lib.hid (below_on HB.out hb); clear hb
          clear hK K
          simp only [Act.put, pa, pb, pc]
          refine ltk 7 (by kernel_rfl) (fun _ _ d _ _ h => by cases d <;> exact h) (fun o ho => ?_)
          simp only [qa, qb, qc, qd] at ho; subst ho
          apply Exists.intro
          refine ⟨Or.inl ⟨by kernel_rfl, fun w' hl => Or.inl ?_⟩, ?_⟩
          · (go_simp; try with_reducible rfl)
          simp only [Act.put, pa, pb, pc]
          refine late_end (by kernel_rfl) (fun wn hl => ?_)
          have HR2 := Lib.hid (HR2.out.later hl); have HR7 := Lib.hid (HR7.out.later hl); have HE := Lib.hid (HE.out.later hl); have HE2 := Lib.hid (HE2.out.later hl); have HB := Lib.hid (below_on HB.out hl); clear hl
          go_wp2_with fail
          go_roundw
          case rel => exact ⟨i + 1, by have := HLt.out; omega, by go_num, by rw [HNx.out], HE.out, HE2.out, HR2.out, HR7.out, HB.out⟩
          case measure => simp [intOf]; have := HLt.out; omega
      · obtain rfl : i = L.length := by omega
        rw [List.take_length, HFl.out]
        clear hn
        go_wp2_with (first
          | (guard_target = Go.wpList _ _ _ ((⟨some _, .load _ (.tmp 7), _, _, _, _⟩ : Go.Oper) :: _) _ _; refine step_load rfl _ rfl b7 rfl QB HR7.out ?_)
          | (go_at_call 8; guard_target = Go.Calls _ _ #[Go.Value.agg (posA QB)] _ _; refine (list_cs QB _ HPB.out (HT.out.on HB.out)).mono ?_; rintro e w5 ⟨v, rfl, hv, hb⟩; rw [HLB.out] at hv; obtain ⟨a10, c10, rfl, hE⟩ := mvs_of hv; have HE3n := Lib.hid hE; have HR2 := Lib.hid (HR2.out.later hb); have HR7 := Lib.hid (HR7.out.later hb); have HB := Lib.hid (below_on HB.out hb); have HE3 := HE3n; clear hE hv hb HE3n)
          | (go_at_call 11; refine (cs_awake _ (HT.out.on HB.out)).mono ?_; rintro e w3 ⟨rfl, hb⟩; have HB := Lib.hid (below_on HB.out hb); clear hb))
        go_ret
        exact ⟨rfl, HB.out⟩
  · intro o ho
    simp only [qa, qb, qc, qd] at ho; subst ho
    refine ⟨by kernel_rfl, fun wn hl Kx hKx => ?_⟩
    have HX0 := Lib.hid (HX0.out.trans (hl.mono HX0.out.size))
    have HR2 := Lib.hid (HR2.out.later hl); have HB := Lib.hid (below_on HB.out hl); clear hl
    refine mid_allocP rfl ?_; intro b7 wm N R
    have HD2_7 := Lib.hid (show b2 ≠ b7 from Nat.ne_of_lt (by have h1 := HR2.out.lt; have := N.at_; omega))
    have HG7 := Lib.hid (show wx0.heap.size ≤ b7 by have := HX0.out.size; have := N.at_; omega)
    have hb := N.below
    have HRn := Lib.hid R
    clear N R
    refine hKx.out _ _ (Kept.of_call _ hb) ?_
    have HX0 := Lib.hid (HX0.out.trans (hb.mono HX0.out.size))
    have HR2 := Lib.hid (HR2.out.later hb); have HB := Lib.hid (below_on HB.out hb); clear hb
    have HR7 := HRn; clear HRn
    clear hKx Kx
    simp only [Act.put, pa, pb, pc]
    refine Wid.mid_one 2 (by kernel_rfl) (by kernel_rfl) (by kernel_rfl) (fun o ho => ?_)
    simp only [qa, qb, qc, qd] at ho; subst ho
    refine ⟨by kernel_rfl, fun wn hl Kx hKx => ?_⟩
    have HX0 := Lib.hid (HX0.out.trans (hl.mono HX0.out.size))
    have HR2 := Lib.hid (HR2.out.later hl); have HR7 := Lib.hid (HR7.out.later hl); have HB := Lib.hid (below_on HB.out hl); clear hl
    refine mid_allocP rfl ?_; intro b6 wm N R
    have HD2_6 := Lib.hid (show b2 ≠ b6 from Nat.ne_of_lt (by have h1 := HR2.out.lt; have := N.at_; omega))
    have HD7_6 := Lib.hid (show b7 ≠ b6 from Nat.ne_of_lt (by have h1 := HR7.out.lt; have := N.at_; omega))
    have HG6 := Lib.hid (show wx0.heap.size ≤ b6 by have := HX0.out.size; have := N.at_; omega)
    have hb := N.below
    have HRn := Lib.hid R
    clear N R
    refine hKx.out _ _ (Kept.of_call _ hb) ?_
    have HX0 := Lib.hid (HX0.out.trans (hb.mono HX0.out.size))
    have HR2 := Lib.hid (HR2.out.later hb); have HR7 := Lib.hid (HR7.out.later hb); have HB := Lib.hid (below_on HB.out hb); clear hb
    have HR6 := HRn; clear HRn
    clear hKx Kx
    simp only [Act.put, pa, pb, pc]
    have HD6_7 := Lib.hid (Ne.symm HD7_6.out)
    refine Wid.mid_one 4 (by kernel_rfl) (by kernel_rfl) (by kernel_rfl) (fun o ho => ?_)
    simp only [qa, qb, qc, qd] at ho; subst ho
    refine ⟨by kernel_rfl, fun wn hl Kx hKx => ?_⟩
    have HR2 := Lib.hid (HR2.out.later hl); have HR6 := Lib.hid (HR6.out.later hl); have HR7 := Lib.hid (HR7.out.later hl); have HB := Lib.hid (below_on HB.out hl); clear hl
    refine mid_storeP _ _ rfl b6 rfl zeroP p rfl HR6.out ?_; intro wm U R
    have HR2 := Lib.hid (HR2.out.apart U HD2_6.out)
    have HR7 := Lib.hid (HR7.out.apart U HD7_6.out)
    refine hKx.out _ _ (kept_upd U HG6.out) ?_
    have HR6 := Lib.hid R; have HB := Lib.hid (HB.out.trans (U.below (Nat.le_trans HW0.out HG6.out))); clear U R
    clear hKx Kx
    simp only [Act.put, pa, pb, pc]
    refine Wid.mid_one 5 (by kernel_rfl) (by kernel_rfl) (by kernel_rfl) (fun o ho => ?_)
    simp only [qa, qb, qc, qd] at ho; subst ho
    refine ⟨by kernel_rfl, fun wn hl Kx hKx => ?_⟩
    have HR2 := Lib.hid (HR2.out.later hl); have HR6 := Lib.hid (HR6.out.later hl); have HR7 := Lib.hid (HR7.out.later hl); have HB := Lib.hid (below_on HB.out hl); clear hl
    refine mid_storeP _ _ rfl b7 rfl zeroP p rfl HR7.out ?_; intro wm U R
    have HR2 := Lib.hid (HR2.out.apart U HD2_7.out)
    have HR6 := Lib.hid (HR6.out.apart U HD6_7.out)
    refine hKx.out _ _ (kept_upd U HG7.out) ?_
    have HR7 := Lib.hid R; have HB := Lib.hid (HB.out.trans (U.below (Nat.le_trans HW0.out HG7.out))); clear U R
    clear hKx Kx
    simp only [Act.put, pa, pb, pc]
    refine Wid.mid_end (by kernel_rfl) (fun wn hl => ?_)
    have HR2 := Lib.hid (HR2.out.later hl); have HR6 := Lib.hid (HR6.out.later hl); have HR7 := Lib.hid (HR7.out.later hl); have HB := Lib.hid (below_on HB.out hl); clear hl
    go_wp2_with (first
        | (guard_target = Go.wpList _ _ _ ((⟨some _, .load _ (.tmp 25), _, _, _, _⟩ : Go.Oper) :: _) _ _; refine step_get rfl 5 _ rfl b2 78 rfl Tryd.underlying5 rfl (.int .u8 (c : Int)) ?_ ?_; exact (HR2.out.cell 78 (by decide)).trans (by rw [HC.out]; rfl))
        | (guard_target = Go.wpList _ _ _ ((⟨some _, .load _ (.tmp 31), _, _, _, _⟩ : Go.Oper) :: _) _ _; refine step_get rfl 5 _ rfl b2 78 rfl Tryd.underlying5 rfl (.int .u8 (c : Int)) ?_ ?_; exact (HR2.out.cell 78 (by decide)).trans (by rw [HC.out]; rfl))
        | (guard_target = Go.wpList _ _ _ ((⟨none, .store _ (.tmp 30) _, _, _, _, _⟩ : Go.Oper) :: _) _ _; refine step_cell (op := ⟨none, .store _ (.tmp 30) _, _, _, _, _⟩) rfl 26 _ _ rfl b6 (79 + c * 2 + 0) rfl .i8 (-1) rfl _ HR6.out (by omega) (kAt_rk HC2.out (by decide)) size26c ?_; intro wn U R; rw [HQA.out] at R; have HR2 := Lib.hid (HR2.out.apart U HD2_6.out); have HR7 := Lib.hid (HR7.out.apart U HD7_6.out); have HR6 := Lib.hid R; have HB := Lib.hid (HB.out.trans (U.below (Nat.le_trans HW0.out HG6.out))); clear U R)
        | (guard_target = Go.wpList _ _ _ ((⟨some 33, .build _ _, _, _, _, _⟩ : Go.Oper) :: _) _ _; refine step_build (op := ⟨some 33, .build _ _, _, _, _, _⟩) rfl 27 _ rfl #[.int .i8 (-1), .int .i8 (-1)] (by kernel_rfl) ?_)
        | (guard_target = Go.wpList _ _ _ ((⟨none, .store _ (.tmp 35) _, _, _, _, _⟩ : Go.Oper) :: _) _ _; refine step_write (op := ⟨none, .store _ (.tmp 35) _, _, _, _, _⟩) rfl 27 _ _ rfl b7 (79 + c * 2) 2 rfl p (fun _ => -1) (congrArg Value.agg (mm_part HC2.out)) HR7.out (by omega) size27c ?_; intro wn U R; rw [HQB.out] at R; have HR2 := Lib.hid (HR2.out.apart U HD2_7.out); have HR6 := Lib.hid (HR6.out.apart U HD6_7.out); have HR7 := Lib.hid R; have HB := Lib.hid (HB.out.trans (U.below (Nat.le_trans HW0.out HG7.out))); clear U R)
        | (guard_target = Go.wpList _ _ _ ((⟨some _, .load _ (.tmp 2), _, _, _, _⟩ : Go.Oper) :: _) _ _; refine step_load rfl _ rfl b2 rfl p HR2.out ?_)
        | (guard_target = Go.wpList _ _ _ ((⟨some _, .load _ (.tmp 6), _, _, _, _⟩ : Go.Oper) :: _) _ _; refine step_load rfl _ rfl b6 rfl QA HR6.out ?_)
        | (go_at_call 8; guard_target = Go.Calls _ _ #[Go.Value.agg (posA p)] _ _; refine (list_cs p _ HP.out (HT.out.on HB.out)).mono ?_; rintro e w5 ⟨v, rfl, hv, hb⟩; rw [HL.out] at hv; obtain ⟨a8, c8, rfl, hE⟩ := mvs_of hv; have HEn := Lib.hid hE; have HR2 := Lib.hid (HR2.out.later hb); have HR6 := Lib.hid (HR6.out.later hb); have HR7 := Lib.hid (HR7.out.later hb); have HB := Lib.hid (below_on HB.out hb); have HE := HEn; clear hE hv hb HEn)
        | (go_at_call 8; guard_target = Go.Calls _ _ #[Go.Value.agg (posA QA)] _ _; refine (list_cs QA _ HPA.out (HT.out.on HB.out)).mono ?_; rintro e w5 ⟨v, rfl, hv, hb⟩; rw [HLA.out] at hv; obtain ⟨a9, c9, rfl, hE⟩ := mvs_of hv; have HE2n := Lib.hid hE; have HR2 := Lib.hid (HR2.out.later hb); have HR6 := Lib.hid (HR6.out.later hb); have HR7 := Lib.hid (HR7.out.later hb); have HE := Lib.hid (HE.out.later hb); have HB := Lib.hid (below_on HB.out hb); have HE2 := HE2n; clear hE hv hb HE2n))
    go_loopw [10, 11] (fun v j wr => ∃ i : Nat, i ≤ L.length ∧ j = .int .i64 (i : Int) ∧ v = .int .i64 ((((L.take i).filter fk).length : Nat) : Int) ∧ Mvs L a8 wr ∧ Mvs LA a9 wr ∧ Row wr b2 p ∧ Row wr b7 QB ∧ Below w.heap.size w wr) (fun _ j _ => L.length - (intOf j).toNat)
    case atStart => exact ⟨0, by omega, rfl, rfl, HE.out, HE2.out, HR2.out, HR7.out, HB.out⟩
    case round =>
      clear HR2 HR6 HR7 HE HE2 HB
      obtain ⟨i, hi, rfl, rfl, he, he2, hr2, hr7, hb⟩ := hrel
      have HE := Lib.hid he
      have HE2 := Lib.hid he2
      have HR2 := Lib.hid hr2
      have HR7 := Lib.hid hr7
      have HB := Lib.hid hb
      clear he he2 hr2 hr7 hb
      obtain ⟨n, hn⟩ : ∃ n, ((L.take i).filter fk).length = n := ⟨_, rfl⟩
      have HNn := Lib.hid hn
      have hn2 : n ≤ LA.length := by rw [← HFl.out, ← hn]; exact fl_len _ _ _
      have hn3 : n ≤ 2 := by have := HLA2.out; omega
      by_cases hl2 : i < L.length
      · obtain ⟨m, hm⟩ : ∃ m, L[i]? = some m := ⟨_, List.getElem?_eq_getElem hl2⟩
        obtain ⟨g8, rfl, _⟩ := HE.out.at hm
        have HX := Lib.hid hm
        have HVm := Lib.hid (HVf.out i m hm)
        have HLt := Lib.hid hl2
        have hw1 : (i : Int) < 2 := by have := HLn.out; omega
        obtain ⟨sd, hsd⟩ : ∃ sd, sdC (p 78) m = sd := ⟨_, rfl⟩
        have HSd := Lib.hid hsd
        cases q1 : (sd == 0)
        · have hfk : fk m = true := by rw [HFk.out]; unfold notK; rw [hsd]; show (!(sd == ((0 : Nat) : Int))) = true; rw [show (sd == ((0 : Nat) : Int)) = false from q1]; rfl
          have hx2 := fl_at hm hfk
          rw [HFl.out, hn] at hx2
          have HX2 := Lib.hid hx2
          have hnl : n < LA.length := (List.getElem?_eq_some_iff.1 hx2).1
          obtain ⟨g9, rfl, _⟩ := HE2.out.at hx2
          have HNx := Lib.hid (show ((L.take (i + 1)).filter fk).length = n + 1 by rw [fl_yes hm hfk, List.length_append, hn]; rfl)
          have q2 : decide (LA.length ≤ n) = false := decide_eq_false (by omega)
          have q2' : decide ((LA.length : Int) ≤ (n : Int)) = false := decide_eq_false (by omega)
          rw [hn]
          clear hm hsd hx2 hfk hn hl2 hi
          go_wp2_with fail
          refine late_begin 8 (by kernel_rfl) ?_
          refine ltk 0 (by kernel_rfl) (fun _ _ d _ _ h => by cases d <;> exact h) (fun o ho => ?_)
          simp only [qa, qb, qc, qd] at ho; subst ho
          refine ⟨.agg (posA p), Or.inl ⟨by kernel_rfl, fun w' hl => Or.inl (run_posS _ rfl b2 rfl p (HR2.out.later hl))⟩, ?_⟩
          simp only [Act.put, pa, pb, pc]
          refine ltk 1 (by kernel_rfl) (fun _ _ d _ _ h => by cases d <;> exact h) (fun o ho => ?_)
          simp only [qa, qb, qc, qd] at ho; subst ho
          apply Exists.intro
          refine ⟨Or.inl ⟨by kernel_rfl, fun w' hl => Or.inl ?_⟩, ?_⟩
          · (go_simp; try with_reducible rfl)
          simp only [Act.put, pa, pb, pc]
          refine ltk 2 (by kernel_rfl) (fun _ _ d _ _ h => by cases d <;> exact h) (fun o ho => ?_)
          simp only [qa, qb, qc, qd] at ho; subst ho
          apply Exists.intro
          refine ⟨Or.inl ⟨by kernel_rfl, fun w' hl => Or.inl ?_⟩, ?_⟩
          · (go_simp; try with_reducible rfl)
          simp only [Act.put, pa, pb, pc]
          refine ltk 3 (by kernel_rfl) (fun _ _ d _ _ h => by cases d <;> exact h) (fun o ho => ?_)
          simp only [qa, qb, qc, qd] at ho; subst ho
          refine ⟨.pointer (some ⟨g8, i * 5, none⟩), Or.inl ⟨by kernel_rfl, fun w' hl => Or.inl ?_⟩, ?_⟩
          · (go_simp <;> (intro hbad; omega))
          simp only [Act.put, pa, pb, pc]
          refine ltk 4 (by kernel_rfl) (fun _ _ d _ _ h => by cases d <;> exact h) (fun o ho => ?_)
          simp only [qa, qb, qc, qd] at ho; subst ho
          refine ⟨.agg (mvA m), Or.inl ⟨by kernel_rfl, fun w' hl => Or.inl (run_mvK _ rfl g8 i _ rfl (by first | omega | (simp; omega)) m ((HE.out.later hl).get HX.out))⟩, ?_⟩
          simp only [Act.put, pa, pb, pc]
          refine ltk 6 (by kernel_rfl) (fun _ _ d _ _ h => by cases d <;> exact h) (fun o ho => ?_)
          simp only [qa, qb, qc, qd] at ho; subst ho
          apply Exists.intro
          refine ⟨Or.inl ⟨by kernel_rfl, fun w' hl => Or.inl ?_⟩, ?_⟩
          · (go_simp; try with_reducible rfl)
          simp only [Act.put, pa, pb, pc]
          refine late_one 5 (by kernel_rfl) (by kernel_rfl) (fun o ho => ?_)
          simp only [qa, qb, qc, qd] at ho; subst ho
          refine ⟨by kernel_rfl, fun wn hl K hK => ?_⟩
          have HR2 := Lib.hid (HR2.out.later hl); have HR7 := Lib.hid (HR7.out.later hl); have HE := Lib.hid (HE.out.later hl); have HE2 := Lib.hid (HE2.out.later hl); have HB := Lib.hid (below_on HB.out hl); clear hl
          refine wp_enter _ _ (by go_simp; exact ⟨rfl, rfl⟩) ?_
          refine (sideK HSd.out _ HVm.out).mono ?_; rintro e wm ⟨rfl, hb⟩; refine ⟨_, rfl, ?_⟩
          refine hK.out _ _ hb ?_
          have HR2 := Lib.hid (HR2.out.later hb); have HR7 := Lib.hid (HR7.out.later hb); have HE := Lib.hid (HE.out.later hb); have HE2 := Lib.hid (HE2.out.later hb); have HB := Lib.hid (below_on HB.out hb); clear hb
          clear hK K
          simp only [Act.put, pa, pb, pc]
          refine ltk 7 (by kernel_rfl) (fun _ _ d _ _ h => by cases d <;> exact h) (fun o ho => ?_)
          simp only [qa, qb, qc, qd] at ho; subst ho
          apply Exists.intro
          refine ⟨Or.inl ⟨by kernel_rfl, fun w' hl => Or.inl ?_⟩, ?_⟩
          · (go_simp; try with_reducible rfl)
          simp only [Act.put, pa, pb, pc]
          refine late_end (by kernel_rfl) (fun wn hl => ?_)
          have HR2 := Lib.hid (HR2.out.later hl); have HR7 := Lib.hid (HR7.out.later hl); have HE := Lib.hid (HE.out.later hl); have HE2 := Lib.hid (HE2.out.later hl); have HB := Lib.hid (below_on HB.out hl); clear hl
          go_wp2_with fail
          refine late_begin 15 (by kernel_rfl) ?_
          refine ltk 0 (by kernel_rfl) (fun _ _ d _ _ h => by cases d <;> exact h) (fun o ho => ?_)
          simp only [qa, qb, qc, qd] at ho; subst ho
          apply Exists.intro
          refine ⟨Or.inl ⟨by kernel_rfl, fun w' hl => Or.inl ?_⟩, ?_⟩
          · (go_simp; try with_reducible rfl)
          simp only [Act.put, pa, pb, pc]
          refine ltk 1 (by kernel_rfl) (fun _ _ d _ _ h => by cases d <;> exact h) (fun o ho => ?_)
          simp only [qa, qb, qc, qd] at ho; subst ho
          apply Exists.intro
          refine ⟨Or.inl ⟨by kernel_rfl, fun w' hl => Or.inl ?_⟩, ?_⟩
          · (go_simp; try with_reducible rfl)
          simp only [Act.put, pa, pb, pc]
          refine ltk 2 (by kernel_rfl) (fun _ _ d _ _ h => by cases d <;> exact h) (fun o ho => ?_)
          simp only [qa, qb, qc, qd] at ho; subst ho
          apply Exists.intro
          refine ⟨Or.inl ⟨by kernel_rfl, fun w' hl => Or.inl ?_⟩, ?_⟩
          · (go_simp; try with_reducible rfl)
          simp only [Act.put, pa, pb, pc]
          refine ltk 3 (by kernel_rfl) (fun _ _ d _ _ h => by cases d <;> exact h) (fun o ho => ?_)
          simp only [qa, qb, qc, qd] at ho; subst ho
          apply Exists.intro
          refine ⟨Or.inl ⟨by kernel_rfl, fun w' hl => Or.inl ?_⟩, ?_⟩
          · (go_simp; try with_reducible rfl)
          simp only [Act.put, pa, pb, pc]
          refine ltk 4 (by kernel_rfl) (fun _ _ d _ _ h => by cases d <;> exact h) (fun o ho => ?_)
          simp only [qa, qb, qc, qd] at ho; subst ho
          apply Exists.intro
          refine ⟨Or.inl ⟨by kernel_rfl, fun w' hl => Or.inl ?_⟩, ?_⟩
          · (go_simp; try with_reducible rfl)
          simp only [Act.put, pa, pb, pc]
          refine ltk 5 (by kernel_rfl) (fun _ _ d _ _ h => by cases d <;> exact h) (fun o ho => ?_)
          simp only [qa, qb, qc, qd] at ho; subst ho
          apply Exists.intro
          refine ⟨Or.inl ⟨by kernel_rfl, fun w' hl => Or.inl ?_⟩, ?_⟩
          · (go_simp; try with_reducible rfl)
          simp only [Act.put, pa, pb, pc]
          refine ltk 6 (by kernel_rfl) (fun _ _ d _ _ h => by cases d <;> exact h) (fun o ho => ?_)
          simp only [qa, qb, qc, qd] at ho; subst ho
          apply Exists.intro
          refine ⟨Or.inl ⟨by kernel_rfl, fun w' hl => Or.inl ?_⟩, ?_⟩
          · (go_simp; try with_reducible rfl)
          simp only [Act.put, pa, pb, pc]
          refine ltk 7 (by kernel_rfl) (fun _ _ d _ _ h => by cases d <;> exact h) (fun o ho => ?_)
          simp only [qa, qb, qc, qd] at ho; subst ho
          refine ⟨.pointer (some ⟨g9, n * 5, none⟩), Or.inl ⟨by kernel_rfl, fun w' hl => Or.inl ?_⟩, ?_⟩
          · (go_simp <;> (intro hbad; omega))
          simp only [Act.put, pa, pb, pc]
          refine ltk 8 (by kernel_rfl) (fun _ _ d _ _ h => by cases d <;> exact h) (fun o ho => ?_)
          simp only [qa, qb, qc, qd] at ho; subst ho
          refine ⟨.agg (mvA m), Or.inl ⟨by kernel_rfl, fun w' hl => Or.inl (run_mvK _ rfl g9 n _ rfl (by first | omega | (simp; omega)) m ((HE2.out.later hl).get HX2.out))⟩, ?_⟩
          simp only [Act.put, pa, pb, pc]
          refine ltk 9 (by kernel_rfl) (fun _ _ d _ _ h => by cases d <;> exact h) (fun o ho => ?_)
          simp only [qa, qb, qc, qd] at ho; subst ho
          apply Exists.intro
          refine ⟨Or.inl ⟨by kernel_rfl, fun w' hl => Or.inl ?_⟩, ?_⟩
          · (go_simp; try with_reducible rfl)
          simp only [Act.put, pa, pb, pc]
          refine ltk 10 (by kernel_rfl) (fun _ _ d _ _ h => by cases d <;> exact h) (fun o ho => ?_)
          simp only [qa, qb, qc, qd] at ho; subst ho
          apply Exists.intro
          refine ⟨Or.inl ⟨by kernel_rfl, fun w' hl => Or.inl ?_⟩, ?_⟩
          · (go_simp; try with_reducible rfl)
          simp only [Act.put, pa, pb, pc]
          refine ltk 11 (by kernel_rfl) (fun _ _ d _ _ h => by cases d <;> exact h) (fun o ho => ?_)
          simp only [qa, qb, qc, qd] at ho; subst ho
          refine ⟨.pointer (some ⟨g8, i * 5, none⟩), Or.inl ⟨by kernel_rfl, fun w' hl => Or.inl ?_⟩, ?_⟩
          · (go_simp <;> (intro hbad; omega))
          simp only [Act.put, pa, pb, pc]
          refine ltk 12 (by kernel_rfl) (fun _ _ d _ _ h => by cases d <;> exact h) (fun o ho => ?_)
          simp only [qa, qb, qc, qd] at ho; subst ho
          refine ⟨.agg (mvA m), Or.inl ⟨by kernel_rfl, fun w' hl => Or.inl (run_mvK _ rfl g8 i _ rfl (by first | omega | (simp; omega)) m ((HE.out.later hl).get HX.out))⟩, ?_⟩
          simp only [Act.put, pa, pb, pc]
          refine ltk 13 (by kernel_rfl) (fun _ _ d _ _ h => by cases d <;> exact h) (fun o ho => ?_)
          simp only [qa, qb, qc, qd] at ho; subst ho
          refine ⟨.bool false, Or.inl ⟨by kernel_rfl, fun w' hl => Or.inl (run_mvN _ _ rfl m m rfl rfl HVm.out HVm.out true (mvE_true.2 rfl))⟩, ?_⟩
          simp only [Act.put, pa, pb, pc]
          refine ltk 14 (by kernel_rfl) (fun _ _ d _ _ h => by cases d <;> exact h) (fun o ho => ?_)
          simp only [qa, qb, qc, qd] at ho; subst ho
          apply Exists.intro
          refine ⟨Or.inl ⟨by kernel_rfl, fun w' hl => Or.inl ?_⟩, ?_⟩
          · (go_simp; try with_reducible rfl)
          simp only [Act.put, pa, pb, pc]
          refine late_end (by kernel_rfl) (fun wn hl => ?_)
          have HR2 := Lib.hid (HR2.out.later hl); have HR7 := Lib.hid (HR7.out.later hl); have HE := Lib.hid (HE.out.later hl); have HE2 := Lib.hid (HE2.out.later hl); have HB := Lib.hid (below_on HB.out hl); clear hl
          go_wp2_with fail
          go_roundw
          case rel => exact ⟨i + 1, by have := HLt.out; omega, by go_num, by rw [HNx.out]; go_num, HE.out, HE2.out, HR2.out, HR7.out, HB.out⟩
          case measure => simp [intOf]; have := HLt.out; omega
        · have hfk : fk m = false := by rw [HFk.out]; unfold notK; rw [hsd]; show (!(sd == ((0 : Nat) : Int))) = false; rw [show (sd == ((0 : Nat) : Int)) = true from q1]; rfl
          have HNx := Lib.hid (show ((L.take (i + 1)).filter fk).length = n by rw [fl_no hm hfk, hn])
          rw [hn]
          clear hm hsd hfk hn hl2 hi
          go_wp2_with fail
          refine late_begin 8 (by kernel_rfl) ?_
          refine ltk 0 (by kernel_rfl) (fun _ _ d _ _ h => by cases d <;> exact h) (fun o ho => ?_)
          simp only [qa, qb, qc, qd] at ho; subst ho
          refine ⟨.agg (posA p), Or.inl ⟨by kernel_rfl, fun w' hl => Or.inl (run_posS _ rfl b2 rfl p (HR2.out.later hl))⟩, ?_⟩
          simp only [Act.put, pa, pb, pc]
          refine ltk 1 (by kernel_rfl) (fun _ _ d _ _ h => by cases d <;> exact h) (fun o ho => ?_)
          simp only [qa, qb, qc, qd] at ho; subst ho
          apply Exists.intro
          refine ⟨Or.inl ⟨by kernel_rfl, fun w' hl => Or.inl ?_⟩, ?_⟩
          · (go_simp; try with_reducible rfl)
          simp only [Act.put, pa, pb, pc]
          refine ltk 2 (by kernel_rfl) (fun _ _ d _ _ h => by cases d <;> exact h) (fun o ho => ?_)
          simp only [qa, qb, qc, qd] at ho; subst ho
          apply Exists.intro
          refine ⟨Or.inl ⟨by kernel_rfl, fun w' hl => Or.inl ?_⟩, ?_⟩
          · (go_simp; try with_reducible rfl)
          simp only [Act.put, pa, pb, pc]
          refine ltk 3 (by kernel_rfl) (fun _ _ d _ _ h => by cases d <;> exact h) (fun o ho => ?_)
          simp only [qa, qb, qc, qd] at ho; subst ho
          refine ⟨.pointer (some ⟨g8, i * 5, none⟩), Or.inl ⟨by kernel_rfl, fun w' hl => Or.inl ?_⟩, ?_⟩
          · (go_simp <;> (intro hbad; omega))
          simp only [Act.put, pa, pb, pc]
          refine ltk 4 (by kernel_rfl) (fun _ _ d _ _ h => by cases d <;> exact h) (fun o ho => ?_)
          simp only [qa, qb, qc, qd] at ho; subst ho
          refine ⟨.agg (mvA m), Or.inl ⟨by kernel_rfl, fun w' hl => Or.inl (run_mvK _ rfl g8 i _ rfl (by first | omega | (simp; omega)) m ((HE.out.later hl).get HX.out))⟩, ?_⟩
          simp only [Act.put, pa, pb, pc]
          refine ltk 6 (by kernel_rfl) (fun _ _ d _ _ h => by cases d <;> exact h) (fun o ho => ?_)
          simp only [qa, qb, qc, qd] at ho; subst ho
          apply Exists.intro
          refine ⟨Or.inl ⟨by kernel_rfl, fun w' hl => Or.inl ?_⟩, ?_⟩
          · (go_simp; try with_reducible rfl)
          simp only [Act.put, pa, pb, pc]
          refine late_one 5 (by kernel_rfl) (by kernel_rfl) (fun o ho => ?_)
          simp only [qa, qb, qc, qd] at ho; subst ho
          refine ⟨by kernel_rfl, fun wn hl K hK => ?_⟩
          have HR2 := Lib.hid (HR2.out.later hl); have HR7 := Lib.hid (HR7.out.later hl); have HE := Lib.hid (HE.out.later hl); have HE2 := Lib.hid (HE2.out.later hl); have HB := Lib.hid (below_on HB.out hl); clear hl
          refine wp_enter _ _ (by go_simp; exact ⟨rfl, rfl⟩) ?_
          refine (sideK HSd.out _ HVm.out).mono ?_; rintro e wm ⟨rfl, hb⟩; refine ⟨_, rfl, ?_⟩
          refine hK.out _ _ hb ?_
          have HR2 := Lib.hid (HR2.out.later hb); have HR7 := Lib.hid (HR7.out.later hb); have HE := Lib.hid (HE.out.later hb); have HE2 := Lib.hid (HE2.out.later hb); have HB := Lib.hid (below_on HB.out hb); clear hb
          clear hK K
          simp only [Act.put, pa, pb, pc]
          refine ltk 7 (by kernel_rfl) (fun _ _ d _ _ h => by cases d <;> exact h) (fun o ho => ?_)
          simp only [qa, qb, qc, qd] at ho; subst ho
          apply Exists.intro
          refine ⟨Or.inl ⟨by kernel_rfl, fun w' hl => Or.inl ?_⟩, ?_⟩
          · (go_simp; try with_reducible rfl)
          simp only [Act.put, pa, pb, pc]
          refine late_end (by kernel_rfl) (fun wn hl => ?_)
          have HR2 := Lib.hid (HR2.out.later hl); have HR7 := Lib.hid (HR7.out.later hl); have HE := Lib.hid (HE.out.later hl); have HE2 := Lib.hid (HE2.out.later hl); have HB := Lib.hid (below_on HB.out hl); clear hl
          go_wp2_with fail
          go_roundw
          case rel => exact ⟨i + 1, by have := HLt.out; omega, by go_num, by rw [HNx.out], HE.out, HE2.out, HR2.out, HR7.out, HB.out⟩
          case measure => simp [intOf]; have := HLt.out; omega
      · obtain rfl : i = L.length := by omega
        rw [List.take_length, HFl.out]
        clear hn
        go_wp2_with (first
          | (guard_target = Go.wpList _ _ _ ((⟨some _, .load _ (.tmp 7), _, _, _, _⟩ : Go.Oper) :: _) _ _; refine step_load rfl _ rfl b7 rfl QB HR7.out ?_)
          | (go_at_call 8; guard_target = Go.Calls _ _ #[Go.Value.agg (posA QB)] _ _; refine (list_cs QB _ HPB.out (HT.out.on HB.out)).mono ?_; rintro e w5 ⟨v, rfl, hv, hb⟩; rw [HLB.out] at hv; obtain ⟨a10, c10, rfl, hE⟩ := mvs_of hv; have HE3n := Lib.hid hE; have HR2 := Lib.hid (HR2.out.later hb); have HR7 := Lib.hid (HR7.out.later hb); have HB := Lib.hid (below_on HB.out hb); have HE3 := HE3n; clear hE hv hb HE3n)
          | (go_at_call 11; refine (cs_awake _ (HT.out.on HB.out)).mono ?_; rintro e w3 ⟨rfl, hb⟩; have HB := Lib.hid (below_on HB.out hb); clear hb))
        go_ret
        exact ⟨rfl, HB.out⟩
set_option maxRecDepth 100000 in
set_option maxHeartbeats 6000000 in
theorem rights_1 (p : Nat → Int) (w : World) (hp : CsR p) (hT : CsT w) (h78 : p 78 ≤ 1) : Calls Tryd.prog 6 #[.agg (posA p), .bool true] w fun e w' => e = .returned (.bool true) ∧ Below w.heap.size w w' := by
  have HT := Lib.hid hT
  have HP := Lib.hid hp
  have ht0 := hp.at_.turn.1
  obtain ⟨c, hc⟩ : ∃ c : Nat, p 78 = (c : Int) := ⟨(p 78).toNat, by omega⟩
  have hc2 : c < 2 := by omega
  have HC := Lib.hid hc
  have HC2 := Lib.hid hc2
  have q0 : decide (1 < p 78) = false := decide_eq_false (by omega)
  obtain ⟨L, hL⟩ : ∃ L, camL p = L := ⟨_, rfl⟩
  obtain ⟨QA, hQA⟩ : ∃ QA, upd p (79 + c * 2 + 1) (-1) = QA := ⟨_, rfl⟩
  obtain ⟨QB, hQB⟩ : ∃ QB, over p (79 + c * 2) 2 (fun _ => -1) = QB := ⟨_, rfl⟩
  obtain ⟨LA, hLA⟩ : ∃ LA, camL QA = LA := ⟨_, rfl⟩
  have HQA := Lib.hid hQA
  have HQB := Lib.hid hQB
  have hAA : Agr p QA := by rw [← hQA]; exact agr_upd (by omega)
  have hAB : Agr p QB := by rw [← hQB]; intro j hj; unfold over; rw [if_neg (by omega)]
  have HPA := Lib.hid (show CsR QA from hp.agr hAA fun i hi => by
    rw [← hQA]; unfold upd; split
    · omega
    · exact hp.rk i hi)
  have HPB := Lib.hid (show CsR QB from hp.agr hAB fun i hi => by
    rw [← hQB]; unfold over; split
    · show -128 ≤ (-1 : Int) ∧ (-1 : Int) ≤ 127; omega
    · exact hp.rk i hi)
  obtain ⟨fk, HFk⟩ : ∃ fk : Mv → Bool, Hid (∀ m, fk m = notK p 1 m) := ⟨_, Lib.hid fun _ => rfl⟩
  have HFl := Lib.hid (show L.filter fk = LA by
    rw [show fk = notK p 1 from funext HFk.out, ← hL, ← hLA]
    refine (cam_less ht0 (k := 1) (by decide) hAA ?_ ?_).symm
    · rw [fl_eq (c := c) (by rw [hAA _ (by omega)]; exact hc), ← hQA]; exact upd_same _ _ _
    · rw [fl_eq (c := c) (by rw [hAA _ (by omega)]; exact hc), fl_eq hc, ← hQA]; exact upd_other _ _ _ _ (by omega))
  have HLB := Lib.hid (show camL QB = [] from cam_none hAB
    (by rw [fl_eq (c := c) (by rw [hAB _ (by omega)]; exact hc), ← hQB]; unfold over; rw [if_pos (by omega)])
    (by rw [fl_eq (c := c) (by rw [hAB _ (by omega)]; exact hc), ← hQB]; unfold over; rw [if_pos (by omega)]))
  have HL := Lib.hid hL
  have HLA := Lib.hid hLA
  have HVf := Lib.hid (show ∀ (i : Nat) (m : Mv), L[i]? = some m → FitV m by rw [← hL]; exact fun i m h => cam_fit HP.out.at_.turn.1 (List.mem_of_getElem? h))
  have HLn := Lib.hid (show L.length ≤ 2 by rw [← hL]; exact cam_len p)
  have HLA2 := Lib.hid (show LA.length ≤ 2 by rw [← hLA]; exact cam_len _)
  clear hp hT hL hQA hQB hLA hAA hAB hc h78 ht0
  have HB := Lib.hid (Below.refl w.heap.size w)
  go_enter Tryd.func6, Tryd.ntmps6
  go_wp2_with (first
      | (guard_target = Go.wpList _ _ _ ((⟨some 2, .box _ _, _, _, _, _⟩ : Go.Oper) :: _) _ _; refine step_box rfl _ rfl p rfl ?_; intro b2 w1 N R; have HG2 := Lib.hid (show w.heap.size ≤ b2 by have := HB.out.size; have := N.at_; omega); have HB := Lib.hid (below_on HB.out N.below); have HR2 := Lib.hid R; clear N R)
      | (guard_target = Go.wpList _ _ _ ((⟨some 13, .load _ (.tmp 12), _, _, _, _⟩ : Go.Oper) :: _) _ _; refine step_get rfl 5 _ rfl b2 78 rfl Tryd.underlying5 rfl (.int .u8 (p 78)) ?_ ?_; exact HR2.out.cell 78 (by decide)))
  obtain ⟨wx0, hwx⟩ : ∃ wx0, wx0 = w1 := ⟨_, rfl⟩
  have HW0 := Lib.hid (show w.heap.size ≤ wx0.heap.size by rw [hwx]; exact HB.out.size)
  have HL1 := Lib.hid (show b2 < wx0.heap.size by rw [hwx]; exact HR2.out.lt)
  have HX0 := Lib.hid (show Below wx0.heap.size wx0 w1 by rw [hwx]; exact Below.refl _ _)
  clear hwx
  have HFm := Lib.hid (by kernel_rfl : Tryd.prog.follows .mixedOrders = true)
  refine (wpIn_wide (n := 1)).1 ?_
  refine Wid.mid_begin (X := (wx0.heap.size ≤ ·)) HFm.out ?_
  refine Wid.mid_take 0 (by kernel_rfl) (by kernel_rfl) (by kernel_rfl) (by kernel_rfl) (by kernel_rfl) (fun _ _ d _ _ h => by cases d <;> exact h) (fun o ho => ?_)
  simp only [qa, qb, qc, qd] at ho; subst ho
  refine ⟨_, Or.inl ⟨by kernel_rfl, fun w' hl => run_load _ rfl _ rfl p (show Row w' b2 p from (hl.same b2 HR2.out.lt (Nat.not_le.2 HL1.out)).trans HR2.out)⟩, ?_⟩
  simp only [Act.put, pa, pb, pc]
  refine Wid.mid_take 1 (by kernel_rfl) (by kernel_rfl) (by kernel_rfl) (by kernel_rfl) (by kernel_rfl) (fun _ _ d _ _ h => by cases d <;> exact h) (fun o ho => ?_)
  simp only [qa, qb, qc, qd] at ho; subst ho
  refine ⟨_, Or.inl ⟨by kernel_rfl, fun w' hl => run_load _ rfl _ rfl p (show Row w' b2 p from (hl.same b2 HR2.out.lt (Nat.not_le.2 HL1.out)).trans HR2.out)⟩, ?_⟩
  simp only [Act.put, pa, pb, pc]
  refine mid_some [2, 3] (by kernel_rfl) (by kernel_rfl) (by simp) (by kernel_rfl) (fun i hi => ?_)
  simp only [List.mem_cons, List.not_mem_nil, or_false] at hi
  rcases hi with rfl | rfl
  · intro o ho
    simp only [qa, qb, qc, qd] at ho; subst ho
    refine ⟨by kernel_rfl, fun wn hl Kx hKx => ?_⟩
    have HX0 := Lib.hid (HX0.out.trans (hl.mono HX0.out.size))
    have HR2 := Lib.hid (HR2.out.later hl); have HB := Lib.hid (below_on HB.out hl); clear hl
    refine mid_allocP rfl ?_; intro b6 wm N R
    have HD2_6 := Lib.hid (show b2 ≠ b6 from Nat.ne_of_lt (by have h1 := HR2.out.lt; have := N.at_; omega))
    have HG6 := Lib.hid (show wx0.heap.size ≤ b6 by have := HX0.out.size; have := N.at_; omega)
    have hb := N.below
    have HRn := Lib.hid R
    clear N R
    refine hKx.out _ _ (Kept.of_call _ hb) ?_
    have HX0 := Lib.hid (HX0.out.trans (hb.mono HX0.out.size))
    have HR2 := Lib.hid (HR2.out.later hb); have HB := Lib.hid (below_on HB.out hb); clear hb
    have HR6 := HRn; clear HRn
    clear hKx Kx
    simp only [Act.put, pa, pb, pc]
    refine Wid.mid_one 3 (by kernel_rfl) (by kernel_rfl) (by kernel_rfl) (fun o ho => ?_)
    simp only [qa, qb, qc, qd] at ho; subst ho
    refine ⟨by kernel_rfl, fun wn hl Kx hKx => ?_⟩
    have HX0 := Lib.hid (HX0.out.trans (hl.mono HX0.out.size))
    have HR2 := Lib.hid (HR2.out.later hl); have HR6 := Lib.hid (HR6.out.later hl); have HB := Lib.hid (below_on HB.out hl); clear hl
    refine mid_allocP rfl ?_; intro b7 wm N R
    have HD2_7 := Lib.hid (show b2 ≠ b7 from Nat.ne_of_lt (by have h1 := HR2.out.lt; have := N.at_; omega))
    have HD6_7 := Lib.hid (show b6 ≠ b7 from Nat.ne_of_lt (by have h1 := HR6.out.lt; have := N.at_; omega))
    have HG7 := Lib.hid (show wx0.heap.size ≤ b7 by have := HX0.out.size; have := N.at_; omega)
    have hb := N.below
    have HRn := Lib.hid R
    clear N R
    refine hKx.out _ _ (Kept.of_call _ hb) ?_
    have HX0 := Lib.hid (HX0.out.trans (hb.mono HX0.out.size))
    have HR2 := Lib.hid (HR2.out.later hb); have HR6 := Lib.hid (HR6.out.later hb); have HB := Lib.hid (below_on HB.out hb); clear hb
    have HR7 := HRn; clear HRn
    clear hKx Kx
    simp only [Act.put, pa, pb, pc]
    have HD7_6 := Lib.hid (Ne.symm HD6_7.out)
    refine Wid.mid_one 4 (by kernel_rfl) (by kernel_rfl) (by kernel_rfl) (fun o ho => ?_)
    simp only [qa, qb, qc, qd] at ho; subst ho
    refine ⟨by kernel_rfl, fun wn hl Kx hKx => ?_⟩
    have HR2 := Lib.hid (HR2.out.later hl); have HR6 := Lib.hid (HR6.out.later hl); have HR7 := Lib.hid (HR7.out.later hl); have HB := Lib.hid (below_on HB.out hl); clear hl
    refine mid_storeP _ _ rfl b6 rfl zeroP p rfl HR6.out ?_; intro wm U R
    have HR2 := Lib.hid (HR2.out.apart U HD2_6.out)
    have HR7 := Lib.hid (HR7.out.apart U HD7_6.out)
    refine hKx.out _ _ (kept_upd U HG6.out) ?_
    have HR6 := Lib.hid R; have HB := Lib.hid (HB.out.trans (U.below (Nat.le_trans HW0.out HG6.out))); clear U R
    clear hKx Kx
    simp only [Act.put, pa, pb, pc]
    refine Wid.mid_one 5 (by kernel_rfl) (by kernel_rfl) (by kernel_rfl) (fun o ho => ?_)
    simp only [qa, qb, qc, qd] at ho; subst ho
    refine ⟨by kernel_rfl, fun wn hl Kx hKx => ?_⟩
    have HR2 := Lib.hid (HR2.out.later hl); have HR6 := Lib.hid (HR6.out.later hl); have HR7 := Lib.hid (HR7.out.later hl); have HB := Lib.hid (below_on HB.out hl); clear hl
    refine mid_storeP _ _ rfl b7 rfl zeroP p rfl HR7.out ?_; intro wm U R
    have HR2 := Lib.hid (HR2.out.apart U HD2_7.out)
    have HR6 := Lib.hid (HR6.out.apart U HD6_7.out)
    refine hKx.out _ _ (kept_upd U HG7.out) ?_
    have HR7 := Lib.hid R; have HB := Lib.hid (HB.out.trans (U.below (Nat.le_trans HW0.out HG7.out))); clear U R
    clear hKx Kx
    simp only [Act.put, pa, pb, pc]
    refine Wid.mid_end (by kernel_rfl) (fun wn hl => ?_)
    have HR2 := Lib.hid (HR2.out.later hl); have HR6 := Lib.hid (HR6.out.later hl); have HR7 := Lib.hid (HR7.out.later hl); have HB := Lib.hid (below_on HB.out hl); clear hl
    go_wp2_with (first
        | (guard_target = Go.wpList _ _ _ ((⟨some _, .load _ (.tmp 25), _, _, _, _⟩ : Go.Oper) :: _) _ _; refine step_get rfl 5 _ rfl b2 78 rfl Tryd.underlying5 rfl (.int .u8 (c : Int)) ?_ ?_; exact (HR2.out.cell 78 (by decide)).trans (by rw [HC.out]; rfl))
        | (guard_target = Go.wpList _ _ _ ((⟨some _, .load _ (.tmp 31), _, _, _, _⟩ : Go.Oper) :: _) _ _; refine step_get rfl 5 _ rfl b2 78 rfl Tryd.underlying5 rfl (.int .u8 (c : Int)) ?_ ?_; exact (HR2.out.cell 78 (by decide)).trans (by rw [HC.out]; rfl))
        | (guard_target = Go.wpList _ _ _ ((⟨none, .store _ (.tmp 30) _, _, _, _, _⟩ : Go.Oper) :: _) _ _; refine step_cell (op := ⟨none, .store _ (.tmp 30) _, _, _, _, _⟩) rfl 26 _ _ rfl b6 (79 + c * 2 + 1) rfl .i8 (-1) rfl _ HR6.out (by omega) (kAt_rk HC2.out (by decide)) size26c ?_; intro wn U R; rw [HQA.out] at R; have HR2 := Lib.hid (HR2.out.apart U HD2_6.out); have HR7 := Lib.hid (HR7.out.apart U HD7_6.out); have HR6 := Lib.hid R; have HB := Lib.hid (HB.out.trans (U.below (Nat.le_trans HW0.out HG6.out))); clear U R)
        | (guard_target = Go.wpList _ _ _ ((⟨some 33, .build _ _, _, _, _, _⟩ : Go.Oper) :: _) _ _; refine step_build (op := ⟨some 33, .build _ _, _, _, _, _⟩) rfl 27 _ rfl #[.int .i8 (-1), .int .i8 (-1)] (by kernel_rfl) ?_)
        | (guard_target = Go.wpList _ _ _ ((⟨none, .store _ (.tmp 35) _, _, _, _, _⟩ : Go.Oper) :: _) _ _; refine step_write (op := ⟨none, .store _ (.tmp 35) _, _, _, _, _⟩) rfl 27 _ _ rfl b7 (79 + c * 2) 2 rfl p (fun _ => -1) (congrArg Value.agg (mm_part HC2.out)) HR7.out (by omega) size27c ?_; intro wn U R; rw [HQB.out] at R; have HR2 := Lib.hid (HR2.out.apart U HD2_7.out); have HR6 := Lib.hid (HR6.out.apart U HD6_7.out); have HR7 := Lib.hid R; have HB := Lib.hid (HB.out.trans (U.below (Nat.le_trans HW0.out HG7.out))); clear U R)
        | (guard_target = Go.wpList _ _ _ ((⟨some _, .load _ (.tmp 2), _, _, _, _⟩ : Go.Oper) :: _) _ _; refine step_load rfl _ rfl b2 rfl p HR2.out ?_)
        | (guard_target = Go.wpList _ _ _ ((⟨some _, .load _ (.tmp 6), _, _, _, _⟩ : Go.Oper) :: _) _ _; refine step_load rfl _ rfl b6 rfl QA HR6.out ?_)
        | (go_at_call 8; guard_target = Go.Calls _ _ #[Go.Value.agg (posA p)] _ _; refine (list_cs p _ HP.out (HT.out.on HB.out)).mono ?_; rintro e w5 ⟨v, rfl, hv, hb⟩; rw [HL.out] at hv; obtain ⟨a8, c8, rfl, hE⟩ := mvs_of hv; have HEn := Lib.hid hE; have HR2 := Lib.hid (HR2.out.later hb); have HR6 := Lib.hid (HR6.out.later hb); have HR7 := Lib.hid (HR7.out.later hb); have HB := Lib.hid (below_on HB.out hb); have HE := HEn; clear hE hv hb HEn)
        | (go_at_call 8; guard_target = Go.Calls _ _ #[Go.Value.agg (posA QA)] _ _; refine (list_cs QA _ HPA.out (HT.out.on HB.out)).mono ?_; rintro e w5 ⟨v, rfl, hv, hb⟩; rw [HLA.out] at hv; obtain ⟨a9, c9, rfl, hE⟩ := mvs_of hv; have HE2n := Lib.hid hE; have HR2 := Lib.hid (HR2.out.later hb); have HR6 := Lib.hid (HR6.out.later hb); have HR7 := Lib.hid (HR7.out.later hb); have HE := Lib.hid (HE.out.later hb); have HB := Lib.hid (below_on HB.out hb); have HE2 := HE2n; clear hE hv hb HE2n))
    go_loopw [10, 11] (fun v j wr => ∃ i : Nat, i ≤ L.length ∧ j = .int .i64 (i : Int) ∧ v = .int .i64 ((((L.take i).filter fk).length : Nat) : Int) ∧ Mvs L a8 wr ∧ Mvs LA a9 wr ∧ Row wr b2 p ∧ Row wr b7 QB ∧ Below w.heap.size w wr) (fun _ j _ => L.length - (intOf j).toNat)
    case atStart => exact ⟨0, by omega, rfl, rfl, HE.out, HE2.out, HR2.out, HR7.out, HB.out⟩
    case round =>
      clear HR2 HR6 HR7 HE HE2 HB
      obtain ⟨i, hi, rfl, rfl, he, he2, hr2, hr7, hb⟩ := hrel
      have HE := Lib.hid he
      have HE2 := Lib.hid he2
      have HR2 := Lib.hid hr2
      have HR7 := Lib.hid hr7
      have HB := Lib.hid hb
      clear he he2 hr2 hr7 hb
      obtain ⟨n, hn⟩ : ∃ n, ((L.take i).filter fk).length = n := ⟨_, rfl⟩
      have HNn := Lib.hid hn
      have hn2 : n ≤ LA.length := by rw [← HFl.out, ← hn]; exact fl_len _ _ _
      have hn3 : n ≤ 2 := by have := HLA2.out; omega
      by_cases hl2 : i < L.length
      · obtain ⟨m, hm⟩ : ∃ m, L[i]? = some m := ⟨_, List.getElem?_eq_getElem hl2⟩
        obtain ⟨g8, rfl, _⟩ := HE.out.at hm
        have HX := Lib.hid hm
        have HVm := Lib.hid (HVf.out i m hm)
        have HLt := Lib.hid hl2
        have hw1 : (i : Int) < 2 := by have := HLn.out; omega
        obtain ⟨sd, hsd⟩ : ∃ sd, sdC (p 78) m = sd := ⟨_, rfl⟩
        have HSd := Lib.hid hsd
        cases q1 : (sd == 1)
        · have hfk : fk m = true := by rw [HFk.out]; unfold notK; rw [hsd]; show (!(sd == ((1 : Nat) : Int))) = true; rw [show (sd == ((1 : Nat) : Int)) = false from q1]; rfl
          have hx2 := fl_at hm hfk
          rw [HFl.out, hn] at hx2
          have HX2 := Lib.hid hx2
          have hnl : n < LA.length := (List.getElem?_eq_some_iff.1 hx2).1
          obtain ⟨g9, rfl, _⟩ := HE2.out.at hx2
          have HNx := Lib.hid (show ((L.take (i + 1)).filter fk).length = n + 1 by rw [fl_yes hm hfk, List.length_append, hn]; rfl)
          have q2 : decide (LA.length ≤ n) = false := decide_eq_false (by omega)
          have q2' : decide ((LA.length : Int) ≤ (n : Int)) = false := decide_eq_false (by omega)
          rw [hn]
          clear hm hsd hx2 hfk hn hl2 hi
          go_wp2_with fail
          refine late_begin 8 (by kernel_rfl) ?_
          refine ltk 0 (by kernel_rfl) (fun _ _ d _ _ h => by cases d <;> exact h) (fun o ho => ?_)
          simp only [qa, qb, qc, qd] at ho; subst ho
          refine ⟨.agg (posA p), Or.inl ⟨by kernel_rfl, fun w' hl => Or.inl (run_posS _ rfl b2 rfl p (HR2.out.later hl))⟩, ?_⟩
          simp only [Act.put, pa, pb, pc]
          refine ltk 1 (by kernel_rfl) (fun _ _ d _ _ h => by cases d <;> exact h) (fun o ho => ?_)
          simp only [qa, qb, qc, qd] at ho; subst ho
          apply Exists.intro
          refine ⟨Or.inl ⟨by kernel_rfl, fun w' hl => Or.inl ?_⟩, ?_⟩
          · (go_simp; try with_reducible rfl)
          simp only [Act.put, pa, pb, pc]
          refine ltk 2 (by kernel_rfl) (fun _ _ d _ _ h => by cases d <;> exact h) (fun o ho => ?_)
          simp only [qa, qb, qc, qd] at ho; subst ho
          apply Exists.intro
          refine ⟨Or.inl ⟨by kernel_rfl, fun w' hl => Or.inl ?_⟩, ?_⟩
          · (go_simp; try with_reducible rfl)
          simp only [Act.put, pa, pb, pc]
          refine ltk 3 (by kernel_rfl) (fun _ _ d _ _ h => by cases d <;> exact h) (fun o ho => ?_)
          simp only [qa, qb, qc, qd] at ho; subst ho
          refine ⟨.pointer (some ⟨g8, i * 5, none⟩), Or.inl ⟨by kernel_rfl, fun w' hl => Or.inl ?_⟩, ?_⟩
          · (go_simp <;> (intro hbad; omega))
          simp only [Act.put, pa, pb, pc]
          refine ltk 4 (by kernel_rfl) (fun _ _ d _ _ h => by cases d <;> exact h) (fun o ho => ?_)
          simp only [qa, qb, qc, qd] at ho; subst ho
          refine ⟨.agg (mvA m), Or.inl ⟨by kernel_rfl, fun w' hl => Or.inl (run_mvK _ rfl g8 i _ rfl (by first | omega | (simp; omega)) m ((HE.out.later hl).get HX.out))⟩, ?_⟩
          simp only [Act.put, pa, pb, pc]
          refine ltk 6 (by kernel_rfl) (fun _ _ d _ _ h => by cases d <;> exact h) (fun o ho => ?_)
          simp only [qa, qb, qc, qd] at ho; subst ho
          apply Exists.intro
          refine ⟨Or.inl ⟨by kernel_rfl, fun w' hl => Or.inl ?_⟩, ?_⟩
          · (go_simp; try with_reducible rfl)
          simp only [Act.put, pa, pb, pc]
          refine late_one 5 (by kernel_rfl) (by kernel_rfl) (fun o ho => ?_)
          simp only [qa, qb, qc, qd] at ho; subst ho
          refine ⟨by kernel_rfl, fun wn hl K hK => ?_⟩
          have HR2 := Lib.hid (HR2.out.later hl); have HR7 := Lib.hid (HR7.out.later hl); have HE := Lib.hid (HE.out.later hl); have HE2 := Lib.hid (HE2.out.later hl); have HB := Lib.hid (below_on HB.out hl); clear hl
          refine wp_enter _ _ (by go_simp; exact ⟨rfl, rfl⟩) ?_
          refine (sideK HSd.out _ HVm.out).mono ?_; rintro e wm ⟨rfl, hb⟩; refine ⟨_, rfl, ?_⟩
          refine hK.out _ _ hb ?_
          have HR2 := Lib.hid (HR2.out.later hb); have HR7 := Lib.hid (HR7.out.later hb); have HE := Lib.hid (HE.out.later hb); have HE2 := Lib.hid (HE2.out.later hb); have HB := Lib.hid (below_on HB.out hb); clear hb
          clear hK K
          simp only [Act.put, pa, pb, pc]
          refine ltk 7 (by kernel_rfl) (fun _ _ d _ _ h => by cases d <;> exact h) (fun o ho => ?_)
          simp only [qa, qb, qc, qd] at ho; subst ho
          apply Exists.intro
          refine ⟨Or.inl ⟨by kernel_rfl, fun w' hl => Or.inl ?_⟩, ?_⟩
          · (go_simp; try with_reducible rfl)
          simp only [Act.put, pa, pb, pc]
          refine late_end (by kernel_rfl) (fun wn hl => ?_)
          have HR2 := Lib.hid (HR2.out.later hl); have HR7 := Lib.hid (HR7.out.later hl); have HE := Lib.hid (HE.out.later hl); have HE2 := Lib.hid (HE2.out.later hl); have HB := Lib.hid (below_on HB.out hl); clear hl
          go_wp2_with fail
          refine late_begin 15 (by kernel_rfl) ?_
          refine ltk 0 (by kernel_rfl) (fun _ _ d _ _ h => by cases d <;> exact h) (fun o ho => ?_)
          simp only [qa, qb, qc, qd] at ho; subst ho
          apply Exists.intro
          refine ⟨Or.inl ⟨by kernel_rfl, fun w' hl => Or.inl ?_⟩, ?_⟩
          · (go_simp; try with_reducible rfl)
          simp only [Act.put, pa, pb, pc]
          refine ltk 1 (by kernel_rfl) (fun _ _ d _ _ h => by cases d <;> exact h) (fun o ho => ?_)
          simp only [qa, qb, qc, qd] at ho; subst ho
          apply Exists.intro
          refine ⟨Or.inl ⟨by kernel_rfl, fun w' hl => Or.inl ?_⟩, ?_⟩
          · (go_simp; try with_reducible rfl)
          simp only [Act.put, pa, pb, pc]
          refine ltk 2 (by kernel_rfl) (fun _ _ d _ _ h => by cases d <;> exact h) (fun o ho => ?_)
          simp only [qa, qb, qc, qd] at ho; subst ho
          apply Exists.intro
          refine ⟨Or.inl ⟨by kernel_rfl, fun w' hl => Or.inl ?_⟩, ?_⟩
          · (go_simp; try with_reducible rfl)
          simp only [Act.put, pa, pb, pc]
          refine ltk 3 (by kernel_rfl) (fun _ _ d _ _ h => by cases d <;> exact h) (fun o ho => ?_)
          simp only [qa, qb, qc, qd] at ho; subst ho
          apply Exists.intro
          refine ⟨Or.inl ⟨by kernel_rfl, fun w' hl => Or.inl ?_⟩, ?_⟩
          · (go_simp; try with_reducible rfl)
          simp only [Act.put, pa, pb, pc]
          refine ltk 4 (by kernel_rfl) (fun _ _ d _ _ h => by cases d <;> exact h) (fun o ho => ?_)
          simp only [qa, qb, qc, qd] at ho; subst ho
          apply Exists.intro
          refine ⟨Or.inl ⟨by kernel_rfl, fun w' hl => Or.inl ?_⟩, ?_⟩
          · (go_simp; try with_reducible rfl)
          simp only [Act.put, pa, pb, pc]
          refine ltk 5 (by kernel_rfl) (fun _ _ d _ _ h => by cases d <;> exact h) (fun o ho => ?_)
          simp only [qa, qb, qc, qd] at ho; subst ho
          apply Exists.intro
          refine ⟨Or.inl ⟨by kernel_rfl, fun w' hl => Or.inl ?_⟩, ?_⟩
          · (go_simp; try with_reducible rfl)
          simp only [Act.put, pa, pb, pc]
          refine ltk 6 (by kernel_rfl) (fun _ _ d _ _ h => by cases d <;> exact h) (fun o ho => ?_)
          simp only [qa, qb, qc, qd] at ho; subst ho
          apply Exists.intro
          refine ⟨Or.inl ⟨by kernel_rfl, fun w' hl => Or.inl ?_⟩, ?_⟩
          · (go_simp; try with_reducible rfl)
          simp only [Act.put, pa, pb, pc]
          refine ltk 7 (by kernel_rfl) (fun _ _ d _ _ h => by cases d <;> exact h) (fun o ho => ?_)
          simp only [qa, qb, qc, qd] at ho; subst ho
          refine ⟨.pointer (some ⟨g9, n * 5, none⟩), Or.inl ⟨by kernel_rfl, fun w' hl => Or.inl ?_⟩, ?_⟩
          · (go_simp <;> (intro hbad; omega))
          simp only [Act.put, pa, pb, pc]
          refine ltk 8 (by kernel_rfl) (fun _ _ d _ _ h => by cases d <;> exact h) (fun o ho => ?_)
          simp only [qa, qb, qc, qd] at ho; subst ho
          refine ⟨.agg (mvA m), Or.inl ⟨by kernel_rfl, fun w' hl => Or.inl (run_mvK _ rfl g9 n _ rfl (by first | omega | (simp; omega)) m ((HE2.out.later hl).get HX2.out))⟩, ?_⟩
          simp only [Act.put, pa, pb, pc]
          refine ltk 9 (by kernel_rfl) (fun _ _ d _ _ h => by cases d <;> exact h) (fun o ho => ?_)
          simp only [qa, qb, qc, qd] at ho; subst ho
          apply Exists.intro
          refine ⟨Or.inl ⟨by kernel_rfl, fun w' hl => Or.inl ?_⟩, ?_⟩
          · (go_simp; try with_reducible rfl)
          simp only [Act.put, pa, pb, pc]
          refine ltk 10 (by kernel_rfl) (fun _ _ d _ _ h => by cases d <;> exact h) (fun o ho => ?_)
          simp only [qa, qb, qc, qd] at ho; subst ho
          apply Exists.intro
          refine ⟨Or.inl ⟨by kernel_rfl, fun w' hl => Or.inl ?_⟩, ?_⟩
          · (go_simp; try with_reducible rfl)
          simp only [Act.put, pa, pb, pc]
          refine ltk 11 (by kernel_rfl) (fun _ _ d _ _ h => by cases d <;> exact h) (fun o ho => ?_)
          simp only [qa, qb, qc, qd] at ho; subst ho
          refine ⟨.pointer (some ⟨g8, i * 5, none⟩), Or.inl ⟨by kernel_rfl, fun w' hl => Or.inl ?_⟩, ?_⟩
          · (go_simp <;> (intro hbad; omega))
          simp only [Act.put, pa, pb, pc]
          refine ltk 12 (by kernel_rfl) (fun _ _ d _ _ h => by cases d <;> exact h) (fun o ho => ?_)
          simp only [qa, qb, qc, qd] at ho; subst ho
          refine ⟨.agg (mvA m), Or.inl ⟨by kernel_rfl, fun w' hl => Or.inl (run_mvK _ rfl g8 i _ rfl (by first | omega | (simp; omega)) m ((HE.out.later hl).get HX.out))⟩, ?_⟩
          simp only [Act.put, pa, pb, pc]
          refine ltk 13 (by kernel_rfl) (fun _ _ d _ _ h => by cases d <;> exact h) (fun o ho => ?_)
          simp only [qa, qb, qc, qd] at ho; subst ho
          refine ⟨.bool false, Or.inl ⟨by kernel_rfl, fun w' hl => Or.inl (run_mvN _ _ rfl m m rfl rfl HVm.out HVm.out true (mvE_true.2 rfl))⟩, ?_⟩
          simp only [Act.put, pa, pb, pc]
          refine ltk 14 (by kernel_rfl) (fun _ _ d _ _ h => by cases d <;> exact h) (fun o ho => ?_)
          simp only [qa, qb, qc, qd] at ho; subst ho
          apply Exists.intro
          refine ⟨Or.inl ⟨by kernel_rfl, fun w' hl => Or.inl ?_⟩, ?_⟩
          · (go_simp; try with_reducible rfl)
          simp only [Act.put, pa, pb, pc]
          refine late_end (by kernel_rfl) (fun wn hl => ?_)
          have HR2 := Lib.hid (HR2.out.later hl); have HR7 := Lib.hid (HR7.out.later hl); have HE := Lib.hid (HE.out.later hl); have HE2 := Lib.hid (HE2.out.later hl); have HB := Lib.hid (below_on HB.out hl); clear hl
          go_wp2_with fail
          go_roundw
          case rel => exact ⟨i + 1, by have := HLt.out; omega, by go_num, by rw [HNx.out]; go_num, HE.out, HE2.out, HR2.out, HR7.out, HB.out⟩
          case measure => simp [intOf]; have := HLt.out; omega
        · have hfk : fk m = false := by rw [HFk.out]; unfold notK; rw [hsd]; show (!(sd == ((1 : Nat) : Int))) = false; rw [show (sd == ((1 : Nat) : Int)) = true from q1]; rfl
          have HNx := Lib.hid (show ((L.take (i + 1)).filter fk).length = n by rw [fl_no hm hfk, hn])
          rw [hn]
          clear hm hsd hfk hn hl2 hi
          go_wp2_with fail
          refine late_begin 8 (by kernel_rfl) ?_
          refine ltk 0 (by kernel_rfl) (fun _ _ d _ _ h => by cases d <;> exact h) (fun o ho => ?_)
          simp only [qa, qb, qc, qd] at ho; subst ho
          refine ⟨.agg (posA p), Or.inl ⟨by kernel_rfl, fun w' hl => Or.inl (run_posS _ rfl b2 rfl p (HR2.out.later hl))⟩, ?_⟩
          simp only [Act.put, pa, pb, pc]
          refine ltk 1 (by kernel_rfl) (fun _ _ d _ _ h => by cases d <;> exact h) (fun o ho => ?_)
          simp only [qa, qb, qc, qd] at ho; subst ho
          apply Exists.intro
          refine ⟨Or.inl ⟨by kernel_rfl, fun w' hl => Or.inl ?_⟩, ?_⟩
          · (go_simp; try with_reducible rfl)
          simp only [Act.put, pa, pb, pc]
          refine ltk 2 (by kernel_rfl) (fun _ _ d _ _ h => by cases d <;> exact h) (fun o ho => ?_)
          simp only [qa, qb, qc, qd] at ho; subst ho
          apply Exists.intro
          refine ⟨Or.inl ⟨by kernel_rfl, fun w' hl => Or.inl ?_⟩, ?_⟩
          · (go_simp; try with_reducible rfl)
          simp only [Act.put, pa, pb, pc]
          refine ltk 3 (by kernel_rfl) (fun _ _ d _ _ h => by cases d <;> exact h) (fun o ho => ?_)
          simp only [qa, qb, qc, qd] at ho; subst ho
          refine ⟨.pointer (some ⟨g8, i * 5, none⟩), Or.inl ⟨by kernel_rfl, fun w' hl => Or.inl ?_⟩, ?_⟩
          · (go_simp <;> (intro hbad; omega))
          simp only [Act.put, pa, pb, pc]
          refine ltk 4 (by kernel_rfl) (fun _ _ d _ _ h => by cases d <;> exact h) (fun o ho => ?_)
          simp only [qa, qb, qc, qd] at ho; subst ho
          refine ⟨.agg (mvA m), Or.inl ⟨by kernel_rfl, fun w' hl => Or.inl (run_mvK _ rfl g8 i _ rfl (by first | omega | (simp; omega)) m ((HE.out.later hl).get HX.out))⟩, ?_⟩
          simp only [Act.put, pa, pb, pc]
          refine ltk 6 (by kernel_rfl) (fun _ _ d _ _ h => by cases d <;> exact h) (fun o ho => ?_)
          simp only [qa, qb, qc, qd] at ho; subst ho
          apply Exists.intro
          refine ⟨Or.inl ⟨by kernel_rfl, fun w' hl => Or.inl ?_⟩, ?_⟩
          · (go_simp; try with_reducible rfl)
          simp only [Act.put, pa, pb, pc]
          refine late_one 5 (by kernel_rfl) (by kernel_rfl) (fun o ho => ?_)
          simp only [qa, qb, qc, qd] at ho; subst ho
          refine ⟨by kernel_rfl, fun wn hl K hK => ?_⟩
          have HR2 := Lib.hid (HR2.out.later hl); have HR7 := Lib.hid (HR7.out.later hl); have HE := Lib.hid (HE.out.later hl); have HE2 := Lib.hid (HE2.out.later hl); have HB := Lib.hid (below_on HB.out hl); clear hl
          refine wp_enter _ _ (by go_simp; exact ⟨rfl, rfl⟩) ?_
          refine (sideK HSd.out _ HVm.out).mono ?_; rintro e wm ⟨rfl, hb⟩; refine ⟨_, rfl, ?_⟩
          refine hK.out _ _ hb ?_
          have HR2 := Lib.hid (HR2.out.later hb); have HR7 := Lib.hid (HR7.out.later hb); have HE := Lib.hid (HE.out.later hb); have HE2 := Lib.hid (HE2.out.later hb); have HB := Lib.hid (below_on HB.out hb); clear hb
          clear hK K
          simp only [Act.put, pa, pb, pc]
          refine ltk 7 (by kernel_rfl) (fun _ _ d _ _ h => by cases d <;> exact h) (fun o ho => ?_)
          simp only [qa, qb, qc, qd] at ho; subst ho
          apply Exists.intro
          refine ⟨Or.inl ⟨by kernel_rfl, fun w' hl => Or.inl ?_⟩, ?_⟩
          · (go_simp; try with_reducible rfl)
          simp only [Act.put, pa, pb, pc]
          refine late_end (by kernel_rfl) (fun wn hl => ?_)
          have HR2 := Lib.hid (HR2.out.later hl); have HR7 := Lib.hid (HR7.out.later hl); have HE := Lib.hid (HE.out.later hl); have HE2 := Lib.hid (HE2.out.later hl); have HB := Lib.hid (below_on HB.out hl); clear hl
          go_wp2_with fail
          go_roundw
          case rel => exact ⟨i + 1, by have := HLt.out; omega, by go_num, by rw [HNx.out], HE.out, HE2.out, HR2.out, HR7.out, HB.out⟩
          case measure => simp [intOf]; have := HLt.out; omega
      · obtain rfl : i = L.length := by omega
        rw [List.take_length, HFl.out]
        clear hn
        go_wp2_with (first
          | (guard_target = Go.wpList _ _ _ ((⟨some _, .load _ (.tmp 7), _, _, _, _⟩ : Go.Oper) :: _) _ _; refine step_load rfl _ rfl b7 rfl QB HR7.out ?_)
          | (go_at_call 8; guard_target = Go.Calls _ _ #[Go.Value.agg (posA QB)] _ _; refine (list_cs QB _ HPB.out (HT.out.on HB.out)).mono ?_; rintro e w5 ⟨v, rfl, hv, hb⟩; rw [HLB.out] at hv; obtain ⟨a10, c10, rfl, hE⟩ := mvs_of hv; have HE3n := Lib.hid hE; have HR2 := Lib.hid (HR2.out.later hb); have HR7 := Lib.hid (HR7.out.later hb); have HB := Lib.hid (below_on HB.out hb); have HE3 := HE3n; clear hE hv hb HE3n)
          | (go_at_call 11; refine (cs_awake _ (HT.out.on HB.out)).mono ?_; rintro e w3 ⟨rfl, hb⟩; have HB := Lib.hid (below_on HB.out hb); clear hb))
        go_ret
        exact ⟨rfl, HB.out⟩
  · intro o ho
    simp only [qa, qb, qc, qd] at ho; subst ho
    refine ⟨by kernel_rfl, fun wn hl Kx hKx => ?_⟩
    have HX0 := Lib.hid (HX0.out.trans (hl.mono HX0.out.size))
    have HR2 := Lib.hid (HR2.out.later hl); have HB := Lib.hid (below_on HB.out hl); clear hl
    refine mid_allocP rfl ?_; intro b7 wm N R
    have HD2_7 := Lib.hid (show b2 ≠ b7 from Nat.ne_of_lt (by have h1 := HR2.out.lt; have := N.at_; omega))
    have HG7 := Lib.hid (show wx0.heap.size ≤ b7 by have := HX0.out.size; have := N.at_; omega)
    have hb := N.below
    have HRn := Lib.hid R
    clear N R
    refine hKx.out _ _ (Kept.of_call _ hb) ?_
    have HX0 := Lib.hid (HX0.out.trans (hb.mono HX0.out.size))
    have HR2 := Lib.hid (HR2.out.later hb); have HB := Lib.hid (below_on HB.out hb); clear hb
    have HR7 := HRn; clear HRn
    clear hKx Kx
    simp only [Act.put, pa, pb, pc]
    refine Wid.mid_one 2 (by kernel_rfl) (by kernel_rfl) (by kernel_rfl) (fun o ho => ?_)
    simp only [qa, qb, qc, qd] at ho; subst ho
    refine ⟨by kernel_rfl, fun wn hl Kx hKx => ?_⟩
    have HX0 := Lib.hid (HX0.out.trans (hl.mono HX0.out.size))
    have HR2 := Lib.hid (HR2.out.later hl); have HR7 := Lib.hid (HR7.out.later hl); have HB := Lib.hid (below_on HB.out hl); clear hl
    refine mid_allocP rfl ?_; intro b6 wm N R
    have HD2_6 := Lib.hid (show b2 ≠ b6 from Nat.ne_of_lt (by have h1 := HR2.out.lt; have := N.at_; omega))
    have HD7_6 := Lib.hid (show b7 ≠ b6 from Nat.ne_of_lt (by have h1 := HR7.out.lt; have := N.at_; omega))
    have HG6 := Lib.hid (show wx0.heap.size ≤ b6 by have := HX0.out.size; have := N.at_; omega)
    have hb := N.below
    have HRn := Lib.hid R
    clear N R
    refine hKx.out _ _ (Kept.of_call _ hb) ?_
    have HX0 := Lib.hid (HX0.out.trans (hb.mono HX0.out.size))
    have HR2 := Lib.hid (HR2.out.later hb); have HR7 := Lib.hid (HR7.out.later hb); have HB := Lib.hid (below_on HB.out hb); clear hb
    have HR6 := HRn; clear HRn
    clear hKx Kx
    simp only [Act.put, pa, pb, pc]
    have HD6_7 := Lib.hid (Ne.symm HD7_6.out)
    refine Wid.mid_one 4 (by kernel_rfl) (by kernel_rfl) (by kernel_rfl) (fun o ho => ?_)
    simp only [qa, qb, qc, qd] at ho; subst ho
    refine ⟨by kernel_rfl, fun wn hl Kx hKx => ?_⟩
    have HR2 := Lib.hid (HR2.out.later hl); have HR6 := Lib.hid (HR6.out.later hl); have HR7 := Lib.hid (HR7.out.later hl); have HB := Lib.hid (below_on HB.out hl); clear hl
    refine mid_storeP _ _ rfl b6 rfl zeroP p rfl HR6.out ?_; intro wm U R
    have HR2 := Lib.hid (HR2.out.apart U HD2_6.out)
    have HR7 := Lib.hid (HR7.out.apart U HD7_6.out)
    refine hKx.out _ _ (kept_upd U HG6.out) ?_
    have HR6 := Lib.hid R; have HB := Lib.hid (HB.out.trans (U.below (Nat.le_trans HW0.out HG6.out))); clear U R
    clear hKx Kx
    simp only [Act.put, pa, pb, pc]
    refine Wid.mid_one 5 (by kernel_rfl) (by kernel_rfl) (by kernel_rfl) (fun o ho => ?_)
    simp only [qa, qb, qc, qd] at ho; subst ho
    refine ⟨by kernel_rfl, fun wn hl Kx hKx => ?_⟩
    have HR2 := Lib.hid (HR2.out.later hl); have HR6 := Lib.hid (HR6.out.later hl); have HR7 := Lib.hid (HR7.out.later hl); have HB := Lib.hid (below_on HB.out hl); clear hl
    refine mid_storeP _ _ rfl b7 rfl zeroP p rfl HR7.out ?_; intro wm U R
    have HR2 := Lib.hid (HR2.out.apart U HD2_7.out)
    have HR6 := Lib.hid (HR6.out.apart U HD6_7.out)
    refine hKx.out _ _ (kept_upd U HG7.out) ?_
    have HR7 := Lib.hid R; have HB := Lib.hid (HB.out.trans (U.below (Nat.le_trans HW0.out HG7.out))); clear U R
    clear hKx Kx
    simp only [Act.put, pa, pb, pc]
    refine Wid.mid_end (by kernel_rfl) (fun wn hl => ?_)
    have HR2 := Lib.hid (HR2.out.later hl); have HR6 := Lib.hid (HR6.out.later hl); have HR7 := Lib.hid (HR7.out.later hl); have HB := Lib.hid (below_on HB.out hl); clear hl
    go_wp2_with (first
        | (guard_target = Go.wpList _ _ _ ((⟨some _, .load _ (.tmp 25), _, _, _, _⟩ : Go.Oper) :: _) _ _; refine step_get rfl 5 _ rfl b2 78 rfl Tryd.underlying5 rfl (.int .u8 (c : Int)) ?_ ?_; exact (HR2.out.cell 78 (by decide)).trans (by rw [HC.out]; rfl))
        | (guard_target = Go.wpList _ _ _ ((⟨some _, .load _ (.tmp 31), _, _, _, _⟩ : Go.Oper) :: _) _ _; refine step_get rfl 5 _ rfl b2 78 rfl Tryd.underlying5 rfl (.int .u8 (c : Int)) ?_ ?_; exact (HR2.out.cell 78 (by decide)).trans (by rw [HC.out]; rfl))
        | (guard_target = Go.wpList _ _ _ ((⟨none, .store _ (.tmp 30) _, _, _, _, _⟩ : Go.Oper) :: _) _ _; refine step_cell (op := ⟨none, .store _ (.tmp 30) _, _, _, _, _⟩) rfl 26 _ _ rfl b6 (79 + c * 2 + 1) rfl .i8 (-1) rfl _ HR6.out (by omega) (kAt_rk HC2.out (by decide)) size26c ?_; intro wn U R; rw [HQA.out] at R; have HR2 := Lib.hid (HR2.out.apart U HD2_6.out); have HR7 := Lib.hid (HR7.out.apart U HD7_6.out); have HR6 := Lib.hid R; have HB := Lib.hid (HB.out.trans (U.below (Nat.le_trans HW0.out HG6.out))); clear U R)
        | (guard_target = Go.wpList _ _ _ ((⟨some 33, .build _ _, _, _, _, _⟩ : Go.Oper) :: _) _ _; refine step_build (op := ⟨some 33, .build _ _, _, _, _, _⟩) rfl 27 _ rfl #[.int .i8 (-1), .int .i8 (-1)] (by kernel_rfl) ?_)
        | (guard_target = Go.wpList _ _ _ ((⟨none, .store _ (.tmp 35) _, _, _, _, _⟩ : Go.Oper) :: _) _ _; refine step_write (op := ⟨none, .store _ (.tmp 35) _, _, _, _, _⟩) rfl 27 _ _ rfl b7 (79 + c * 2) 2 rfl p (fun _ => -1) (congrArg Value.agg (mm_part HC2.out)) HR7.out (by omega) size27c ?_; intro wn U R; rw [HQB.out] at R; have HR2 := Lib.hid (HR2.out.apart U HD2_7.out); have HR6 := Lib.hid (HR6.out.apart U HD6_7.out); have HR7 := Lib.hid R; have HB := Lib.hid (HB.out.trans (U.below (Nat.le_trans HW0.out HG7.out))); clear U R)
        | (guard_target = Go.wpList _ _ _ ((⟨some _, .load _ (.tmp 2), _, _, _, _⟩ : Go.Oper) :: _) _ _; refine step_load rfl _ rfl b2 rfl p HR2.out ?_)
        | (guard_target = Go.wpList _ _ _ ((⟨some _, .load _ (.tmp 6), _, _, _, _⟩ : Go.Oper) :: _) _ _; refine step_load rfl _ rfl b6 rfl QA HR6.out ?_)
        | (go_at_call 8; guard_target = Go.Calls _ _ #[Go.Value.agg (posA p)] _ _; refine (list_cs p _ HP.out (HT.out.on HB.out)).mono ?_; rintro e w5 ⟨v, rfl, hv, hb⟩; rw [HL.out] at hv; obtain ⟨a8, c8, rfl, hE⟩ := mvs_of hv; have HEn := Lib.hid hE; have HR2 := Lib.hid (HR2.out.later hb); have HR6 := Lib.hid (HR6.out.later hb); have HR7 := Lib.hid (HR7.out.later hb); have HB := Lib.hid (below_on HB.out hb); have HE := HEn; clear hE hv hb HEn)
        | (go_at_call 8; guard_target = Go.Calls _ _ #[Go.Value.agg (posA QA)] _ _; refine (list_cs QA _ HPA.out (HT.out.on HB.out)).mono ?_; rintro e w5 ⟨v, rfl, hv, hb⟩; rw [HLA.out] at hv; obtain ⟨a9, c9, rfl, hE⟩ := mvs_of hv; have HE2n := Lib.hid hE; have HR2 := Lib.hid (HR2.out.later hb); have HR6 := Lib.hid (HR6.out.later hb); have HR7 := Lib.hid (HR7.out.later hb); have HE := Lib.hid (HE.out.later hb); have HB := Lib.hid (below_on HB.out hb); have HE2 := HE2n; clear hE hv hb HE2n))
    go_loopw [10, 11] (fun v j wr => ∃ i : Nat, i ≤ L.length ∧ j = .int .i64 (i : Int) ∧ v = .int .i64 ((((L.take i).filter fk).length : Nat) : Int) ∧ Mvs L a8 wr ∧ Mvs LA a9 wr ∧ Row wr b2 p ∧ Row wr b7 QB ∧ Below w.heap.size w wr) (fun _ j _ => L.length - (intOf j).toNat)
    case atStart => exact ⟨0, by omega, rfl, rfl, HE.out, HE2.out, HR2.out, HR7.out, HB.out⟩
    case round =>
      clear HR2 HR6 HR7 HE HE2 HB
      obtain ⟨i, hi, rfl, rfl, he, he2, hr2, hr7, hb⟩ := hrel
      have HE := Lib.hid he
      have HE2 := Lib.hid he2
      have HR2 := Lib.hid hr2
      have HR7 := Lib.hid hr7
      have HB := Lib.hid hb
      clear he he2 hr2 hr7 hb
      obtain ⟨n, hn⟩ : ∃ n, ((L.take i).filter fk).length = n := ⟨_, rfl⟩
      have HNn := Lib.hid hn
      have hn2 : n ≤ LA.length := by rw [← HFl.out, ← hn]; exact fl_len _ _ _
      have hn3 : n ≤ 2 := by have := HLA2.out; omega
      by_cases hl2 : i < L.length
      · obtain ⟨m, hm⟩ : ∃ m, L[i]? = some m := ⟨_, List.getElem?_eq_getElem hl2⟩
        obtain ⟨g8, rfl, _⟩ := HE.out.at hm
        have HX := Lib.hid hm
        have HVm := Lib.hid (HVf.out i m hm)
        have HLt := Lib.hid hl2
        have hw1 : (i : Int) < 2 := by have := HLn.out; omega
        obtain ⟨sd, hsd⟩ : ∃ sd, sdC (p 78) m = sd := ⟨_, rfl⟩
        have HSd := Lib.hid hsd
        cases q1 : (sd == 1)
        · have hfk : fk m = true := by rw [HFk.out]; unfold notK; rw [hsd]; show (!(sd == ((1 : Nat) : Int))) = true; rw [show (sd == ((1 : Nat) : Int)) = false from q1]; rfl
          have hx2 := fl_at hm hfk
          rw [HFl.out, hn] at hx2
          have HX2 := Lib.hid hx2
          have hnl : n < LA.length := (List.getElem?_eq_some_iff.1 hx2).1
          obtain ⟨g9, rfl, _⟩ := HE2.out.at hx2
          have HNx := Lib.hid (show ((L.take (i + 1)).filter fk).length = n + 1 by rw [fl_yes hm hfk, List.length_append, hn]; rfl)
          have q2 : decide (LA.length ≤ n) = false := decide_eq_false (by omega)
          have q2' : decide ((LA.length : Int) ≤ (n : Int)) = false := decide_eq_false (by omega)
          rw [hn]
          clear hm hsd hx2 hfk hn hl2 hi
          go_wp2_with fail
          refine late_begin 8 (by kernel_rfl) ?_
          refine ltk 0 (by kernel_rfl) (fun _ _ d _ _ h => by cases d <;> exact h) (fun o ho => ?_)
          simp only [qa, qb, qc, qd] at ho; subst ho
          refine ⟨.agg (posA p), Or.inl ⟨by kernel_rfl, fun w' hl => Or.inl (run_posS _ rfl b2 rfl p (HR2.out.later hl))⟩, ?_⟩
          simp only [Act.put, pa, pb, pc]
          refine ltk 1 (by kernel_rfl) (fun _ _ d _ _ h => by cases d <;> exact h) (fun o ho => ?_)
          simp only [qa, qb, qc, qd] at ho; subst ho
          apply Exists.intro
          refine ⟨Or.inl ⟨by kernel_rfl, fun w' hl => Or.inl ?_⟩, ?_⟩
          · (go_simp; try with_reducible rfl)
          simp only [Act.put, pa, pb, pc]
          refine ltk 2 (by kernel_rfl) (fun _ _ d _ _ h => by cases d <;> exact h) (fun o ho => ?_)
          simp only [qa, qb, qc, qd] at ho; subst ho
          apply Exists.intro
          refine ⟨Or.inl ⟨by kernel_rfl, fun w' hl => Or.inl ?_⟩, ?_⟩
          · (go_simp; try with_reducible rfl)
          simp only [Act.put, pa, pb, pc]
          refine ltk 3 (by kernel_rfl) (fun _ _ d _ _ h => by cases d <;> exact h) (fun o ho => ?_)
          simp only [qa, qb, qc, qd] at ho; subst ho
          refine ⟨.pointer (some ⟨g8, i * 5, none⟩), Or.inl ⟨by kernel_rfl, fun w' hl => Or.inl ?_⟩, ?_⟩
          · (go_simp <;> (intro hbad; omega))
          simp only [Act.put, pa, pb, pc]
          refine ltk 4 (by kernel_rfl) (fun _ _ d _ _ h => by cases d <;> exact h) (fun o ho => ?_)
          simp only [qa, qb, qc, qd] at ho; subst ho
          refine ⟨.agg (mvA m), Or.inl ⟨by kernel_rfl, fun w' hl => Or.inl (run_mvK _ rfl g8 i _ rfl (by first | omega | (simp; omega)) m ((HE.out.later hl).get HX.out))⟩, ?_⟩
          simp only [Act.put, pa, pb, pc]
          refine ltk 6 (by kernel_rfl) (fun _ _ d _ _ h => by cases d <;> exact h) (fun o ho => ?_)
          simp only [qa, qb, qc, qd] at ho; subst ho
          apply Exists.intro
          refine ⟨Or.inl ⟨by kernel_rfl, fun w' hl => Or.inl ?_⟩, ?_⟩
          · (go_simp; try with_reducible rfl)
          simp only [Act.put, pa, pb, pc]
          refine late_one 5 (by kernel_rfl) (by kernel_rfl) (fun o ho => ?_)
          simp only [qa, qb, qc, qd] at ho; subst ho
          refine ⟨by kernel_rfl, fun wn hl K hK => ?_⟩
          have HR2 := Lib.hid (HR2.out.later hl); have HR7 := Lib.hid (HR7.out.later hl); have HE := Lib.hid (HE.out.later hl); have HE2 := Lib.hid (HE2.out.later hl); have HB := Lib.hid (below_on HB.out hl); clear hl
          refine wp_enter _ _ (by go_simp; exact ⟨rfl, rfl⟩) ?_
          refine (sideK HSd.out _ HVm.out).mono ?_; rintro e wm ⟨rfl, hb⟩; refine ⟨_, rfl, ?_⟩
          refine hK.out _ _ hb ?_
          have HR2 := Lib.hid (HR2.out.later hb); have HR7 := Lib.hid (HR7.out.later hb); have HE := Lib.hid (HE.out.later hb); have HE2 := Lib.hid (HE2.out.later hb); have HB := Lib.hid (below_on HB.out hb); clear hb
          clear hK K
          simp only [Act.put, pa, pb, pc]
          refine ltk 7 (by kernel_rfl) (fun _ _ d _ _ h => by cases d <;> exact h) (fun o ho => ?_)
          simp only [qa, qb, qc, qd] at ho; subst ho
          apply Exists.intro
          refine ⟨Or.inl ⟨by kernel_rfl, fun w' hl => Or.inl ?_⟩, ?_⟩
          · (go_simp; try with_reducible rfl)
          simp only [Act.put, pa, pb, pc]
          refine late_end (by kernel_rfl) (fun wn hl => ?_)
          have HR2 := Lib.hid (HR2.out.later hl); have HR7 := Lib.hid (HR7.out.later hl); have HE := Lib.hid (HE.out.later hl); have HE2 := Lib.hid (HE2.out.later hl); have HB := Lib.hid (below_on HB.out hl); clear hl
          go_wp2_with fail
          refine late_begin 15 (by kernel_rfl) ?_
          refine ltk 0 (by kernel_rfl) (fun _ _ d _ _ h => by cases d <;> exact h) (fun o ho => ?_)
          simp only [qa, qb, qc, qd] at ho; subst ho
          apply Exists.intro
          refine ⟨Or.inl ⟨by kernel_rfl, fun w' hl => Or.inl ?_⟩, ?_⟩
          · (go_simp; try with_reducible rfl)
          simp only [Act.put, pa, pb, pc]
          refine ltk 1 (by kernel_rfl) (fun _ _ d _ _ h => by cases d <;> exact h) (fun o ho => ?_)
          simp only [qa, qb, qc, qd] at ho; subst ho
          apply Exists.intro
          refine ⟨Or.inl ⟨by kernel_rfl, fun w' hl => Or.inl ?_⟩, ?_⟩
          · (go_simp; try with_reducible rfl)
          simp only [Act.put, pa, pb, pc]
          refine ltk 2 (by kernel_rfl) (fun _ _ d _ _ h => by cases d <;> exact h) (fun o ho => ?_)
          simp only [qa, qb, qc, qd] at ho; subst ho
          apply Exists.intro
          refine ⟨Or.inl ⟨by kernel_rfl, fun w' hl => Or.inl ?_⟩, ?_⟩
          · (go_simp; try with_reducible rfl)
          simp only [Act.put, pa, pb, pc]
          refine ltk 3 (by kernel_rfl) (fun _ _ d _ _ h => by cases d <;> exact h) (fun o ho => ?_)
          simp only [qa, qb, qc, qd] at ho; subst ho
          apply Exists.intro
          refine ⟨Or.inl ⟨by kernel_rfl, fun w' hl => Or.inl ?_⟩, ?_⟩
          · (go_simp; try with_reducible rfl)
          simp only [Act.put, pa, pb, pc]
          refine ltk 4 (by kernel_rfl) (fun _ _ d _ _ h => by cases d <;> exact h) (fun o ho => ?_)
          simp only [qa, qb, qc, qd] at ho; subst ho
          apply Exists.intro
          refine ⟨Or.inl ⟨by kernel_rfl, fun w' hl => Or.inl ?_⟩, ?_⟩
          · (go_simp; try with_reducible rfl)
          simp only [Act.put, pa, pb, pc]
          refine ltk 5 (by kernel_rfl) (fun _ _ d _ _ h => by cases d <;> exact h) (fun o ho => ?_)
          simp only [qa, qb, qc, qd] at ho; subst ho
          apply Exists.intro
          refine ⟨Or.inl ⟨by kernel_rfl, fun w' hl => Or.inl ?_⟩, ?_⟩
          · (go_simp; try with_reducible rfl)
          simp only [Act.put, pa, pb, pc]
          refine ltk 6 (by kernel_rfl) (fun _ _ d _ _ h => by cases d <;> exact h) (fun o ho => ?_)
          simp only [qa, qb, qc, qd] at ho; subst ho
          apply Exists.intro
          refine ⟨Or.inl ⟨by kernel_rfl, fun w' hl => Or.inl ?_⟩, ?_⟩
          · (go_simp; try with_reducible rfl)
          simp only [Act.put, pa, pb, pc]
          refine ltk 7 (by kernel_rfl) (fun _ _ d _ _ h => by cases d <;> exact h) (fun o ho => ?_)
          simp only [qa, qb, qc, qd] at ho; subst ho
          refine ⟨.pointer (some ⟨g9, n * 5, none⟩), Or.inl ⟨by kernel_rfl, fun w' hl => Or.inl ?_⟩, ?_⟩
          · (go_simp <;> (intro hbad; omega))
          simp only [Act.put, pa, pb, pc]
          refine ltk 8 (by kernel_rfl) (fun _ _ d _ _ h => by cases d <;> exact h) (fun o ho => ?_)
          simp only [qa, qb, qc, qd] at ho; subst ho
          refine ⟨.agg (mvA m), Or.inl ⟨by kernel_rfl, fun w' hl => Or.inl (run_mvK _ rfl g9 n _ rfl (by first | omega | (simp; omega)) m ((HE2.out.later hl).get HX2.out))⟩, ?_⟩
          simp only [Act.put, pa, pb, pc]
          refine ltk 9 (by kernel_rfl) (fun _ _ d _ _ h => by cases d <;> exact h) (fun o ho => ?_)
          simp only [qa, qb, qc, qd] at ho; subst ho
          apply Exists.intro
          refine ⟨Or.inl ⟨by kernel_rfl, fun w' hl => Or.inl ?_⟩, ?_⟩
          · (go_simp; try with_reducible rfl)
          simp only [Act.put, pa, pb, pc]
          refine ltk 10 (by kernel_rfl) (fun _ _ d _ _ h => by cases d <;> exact h) (fun o ho => ?_)
          simp only [qa, qb, qc, qd] at ho; subst ho
          apply Exists.intro
          refine ⟨Or.inl ⟨by kernel_rfl, fun w' hl => Or.inl ?_⟩, ?_⟩
          · (go_simp; try with_reducible rfl)
          simp only [Act.put, pa, pb, pc]
          refine ltk 11 (by kernel_rfl) (fun _ _ d _ _ h => by cases d <;> exact h) (fun o ho => ?_)
          simp only [qa, qb, qc, qd] at ho; subst ho
          refine ⟨.pointer (some ⟨g8, i * 5, none⟩), Or.inl ⟨by kernel_rfl, fun w' hl => Or.inl ?_⟩, ?_⟩
          · (go_simp <;> (intro hbad; omega))
          simp only [Act.put, pa, pb, pc]
          refine ltk 12 (by kernel_rfl) (fun _ _ d _ _ h => by cases d <;> exact h) (fun o ho => ?_)
          simp only [qa, qb, qc, qd] at ho; subst ho
          refine ⟨.agg (mvA m), Or.inl ⟨by kernel_rfl, fun w' hl => Or.inl (run_mvK _ rfl g8 i _ rfl (by first | omega | (simp; omega)) m ((HE.out.later hl).get HX.out))⟩, ?_⟩
          simp only [Act.put, pa, pb, pc]
          refine ltk 13 (by kernel_rfl) (fun _ _ d _ _ h => by cases d <;> exact h) (fun o ho => ?_)
          simp only [qa, qb, qc, qd] at ho; subst ho
          refine ⟨.bool false, Or.inl ⟨by kernel_rfl, fun w' hl => Or.inl (run_mvN _ _ rfl m m rfl rfl HVm.out HVm.out true (mvE_true.2 rfl))⟩, ?_⟩
          simp only [Act.put, pa, pb, pc]
          refine ltk 14 (by kernel_rfl) (fun _ _ d _ _ h => by cases d <;> exact h) (fun o ho => ?_)
          simp only [qa, qb, qc, qd] at ho; subst ho
          apply Exists.intro
          refine ⟨Or.inl ⟨by kernel_rfl, fun w' hl => Or.inl ?_⟩, ?_⟩
          · (go_simp; try with_reducible rfl)
          simp only [Act.put, pa, pb, pc]
          refine late_end (by kernel_rfl) (fun wn hl => ?_)
          have HR2 := Lib.hid (HR2.out.later hl); have HR7 := Lib.hid (HR7.out.later hl); have HE := Lib.hid (HE.out.later hl); have HE2 := Lib.hid (HE2.out.later hl); have HB := Lib.hid (below_on HB.out hl); clear hl
          go_wp2_with fail
          go_roundw
          case rel => exact ⟨i + 1, by have := HLt.out; omega, by go_num, by rw [HNx.out]; go_num, HE.out, HE2.out, HR2.out, HR7.out, HB.out⟩
          case measure => simp [intOf]; have := HLt.out; omega
        · have hfk : fk m = false := by rw [HFk.out]; unfold notK; rw [hsd]; show (!(sd == ((1 : Nat) : Int))) = false; rw [show (sd == ((1 : Nat) : Int)) = true from q1]; rfl
          have HNx := Lib.hid (show ((L.take (i + 1)).filter fk).length = n by rw [fl_no hm hfk, hn])
          rw [hn]
          clear hm hsd hfk hn hl2 hi
          go_wp2_with fail
          refine late_begin 8 (by kernel_rfl) ?_
          refine ltk 0 (by kernel_rfl) (fun _ _ d _ _ h => by cases d <;> exact h) (fun o ho => ?_)
          simp only [qa, qb, qc, qd] at ho; subst ho
          refine ⟨.agg (posA p), Or.inl ⟨by kernel_rfl, fun w' hl => Or.inl (run_posS _ rfl b2 rfl p (HR2.out.later hl))⟩, ?_⟩
          simp only [Act.put, pa, pb, pc]
          refine ltk 1 (by kernel_rfl) (fun _ _ d _ _ h => by cases d <;> exact h) (fun o ho => ?_)
          simp only [qa, qb, qc, qd] at ho; subst ho
          apply Exists.intro
          refine ⟨Or.inl ⟨by kernel_rfl, fun w' hl => Or.inl ?_⟩, ?_⟩
          · (go_simp; try with_reducible rfl)
          simp only [Act.put, pa, pb, pc]
          refine ltk 2 (by kernel_rfl) (fun _ _ d _ _ h => by cases d <;> exact h) (fun o ho => ?_)
          simp only [qa, qb, qc, qd] at ho; subst ho
          apply Exists.intro
          refine ⟨Or.inl ⟨by kernel_rfl, fun w' hl => Or.inl ?_⟩, ?_⟩
          · (go_simp; try with_reducible rfl)
          simp only [Act.put, pa, pb, pc]
          refine ltk 3 (by kernel_rfl) (fun _ _ d _ _ h => by cases d <;> exact h) (fun o ho => ?_)
          simp only [qa, qb, qc, qd] at ho; subst ho
          refine ⟨.pointer (some ⟨g8, i * 5, none⟩), Or.inl ⟨by kernel_rfl, fun w' hl => Or.inl ?_⟩, ?_⟩
          · (go_simp <;> (intro hbad; omega))
          simp only [Act.put, pa, pb, pc]
          refine ltk 4 (by kernel_rfl) (fun _ _ d _ _ h => by cases d <;> exact h) (fun o ho => ?_)
          simp only [qa, qb, qc, qd] at ho; subst ho
          refine ⟨.agg (mvA m), Or.inl ⟨by kernel_rfl, fun w' hl => Or.inl (run_mvK _ rfl g8 i _ rfl (by first | omega | (simp; omega)) m ((HE.out.later hl).get HX.out))⟩, ?_⟩
          simp only [Act.put, pa, pb, pc]
          refine ltk 6 (by kernel_rfl) (fun _ _ d _ _ h => by cases d <;> exact h) (fun o ho => ?_)
          simp only [qa, qb, qc, qd] at ho; subst ho
          apply Exists.intro
          refine ⟨Or.inl ⟨by kernel_rfl, fun w' hl => Or.inl ?_⟩, ?_⟩
          · (go_simp; try with_reducible rfl)
          simp only [Act.put, pa, pb, pc]
          refine late_one 5 (by kernel_rfl) (by kernel_rfl) (fun o ho => ?_)
          simp only [qa, qb, qc, qd] at ho; subst ho
          refine ⟨by kernel_rfl, fun wn hl K hK => ?_⟩
          have HR2 := Lib.hid (HR2.out.later hl); have HR7 := Lib.hid (HR7.out.later hl); have HE := Lib.hid (HE.out.later hl); have HE2 := Lib.hid (HE2.out.later hl); have HB := Lib.hid (below_on HB.out hl); clear hl
          refine wp_enter _ _ (by go_simp; exact ⟨rfl, rfl⟩) ?_
          refine (sideK HSd.out _ HVm.out).mono ?_; rintro e wm ⟨rfl, hb⟩; refine ⟨_, rfl, ?_⟩
          refine hK.out _ _ hb ?_
          have HR2 := Lib.hid (HR2.out.later hb); have HR7 := Lib.hid (HR7.out.later hb); have HE := Lib.hid (HE.out.later hb); have HE2 := Lib.hid (HE2.out.later hb); have HB := Lib.hid (below_on HB.out hb); clear hb
          clear hK K
          simp only [Act.put, pa, pb, pc]
          refine ltk 7 (by kernel_rfl) (fun _ _ d _ _ h => by cases d <;> exact h) (fun o ho => ?_)
          simp only [qa, qb, qc, qd] at ho; subst ho
          apply Exists.intro
          refine ⟨Or.inl ⟨by kernel_rfl, fun w' hl => Or.inl ?_⟩, ?_⟩
          · (go_simp; try with_reducible rfl)
          simp only [Act.put, pa, pb, pc]
          refine late_end (by kernel_rfl) (fun wn hl => ?_)
          have HR2 := Lib.hid (HR2.out.later hl); have HR7 := Lib.hid (HR7.out.later hl); have HE := Lib.hid (HE.out.later hl); have HE2 := Lib.hid (HE2.out.later hl); have HB := Lib.hid (below_on HB.out hl); clear hl
          go_wp2_with fail
          go_roundw
          case rel => exact ⟨i + 1, by have := HLt.out; omega, by go_num, by rw [HNx.out], HE.out, HE2.out, HR2.out, HR7.out, HB.out⟩
          case measure => simp [intOf]; have := HLt.out; omega
      · obtain rfl : i = L.length := by omega
        rw [List.take_length, HFl.out]
        clear hn
        go_wp2_with (first
          | (guard_target = Go.wpList _ _ _ ((⟨some _, .load _ (.tmp 7), _, _, _, _⟩ : Go.Oper) :: _) _ _; refine step_load rfl _ rfl b7 rfl QB HR7.out ?_)
          | (go_at_call 8; guard_target = Go.Calls _ _ #[Go.Value.agg (posA QB)] _ _; refine (list_cs QB _ HPB.out (HT.out.on HB.out)).mono ?_; rintro e w5 ⟨v, rfl, hv, hb⟩; rw [HLB.out] at hv; obtain ⟨a10, c10, rfl, hE⟩ := mvs_of hv; have HE3n := Lib.hid hE; have HR2 := Lib.hid (HR2.out.later hb); have HR7 := Lib.hid (HR7.out.later hb); have HB := Lib.hid (below_on HB.out hb); have HE3 := HE3n; clear hE hv hb HE3n)
          | (go_at_call 11; refine (cs_awake _ (HT.out.on HB.out)).mono ?_; rintro e w3 ⟨rfl, hb⟩; have HB := Lib.hid (below_on HB.out hb); clear hb))
        go_ret
        exact ⟨rfl, HB.out⟩
set_option maxRecDepth 100000 in
set_option maxHeartbeats 2000000 in
theorem rights_no (p : Nat → Int) (b : Bool) (w : World) (hp : CsR p) (hT : CsT w) (h78 : 1 < p 78) : Calls Tryd.prog 6 #[.agg (posA p), .bool b] w fun e w' => e = .returned (.bool true) ∧ Below w.heap.size w w' := by
  have HT := Lib.hid hT
  have HP := Lib.hid hp
  have q0 : decide (1 < p 78) = true := decide_eq_true h78
  have HL := Lib.hid (show camL p = [] by unfold camL thC; rw [decide_eq_false (by omega)]; rfl)
  clear hp hT h78
  have HB := Lib.hid (Below.refl w.heap.size w)
  go_enter Tryd.func6, Tryd.ntmps6
  go_wp2_with (first
      | (guard_target = Go.wpList _ _ _ ((⟨some 2, .box _ _, _, _, _, _⟩ : Go.Oper) :: _) _ _; refine step_box rfl _ rfl p rfl ?_; intro b2 w1 N R; have HG2 := Lib.hid (show w.heap.size ≤ b2 by have := HB.out.size; have := N.at_; omega); have HB := Lib.hid (below_on HB.out N.below); have HR2 := Lib.hid R; clear N R)
      | (guard_target = Go.wpList _ _ _ ((⟨some 13, .load _ (.tmp 12), _, _, _, _⟩ : Go.Oper) :: _) _ _; refine step_get rfl 5 _ rfl b2 78 rfl Tryd.underlying5 rfl (.int .u8 (p 78)) ?_ ?_; exact HR2.out.cell 78 (by decide))
      | (guard_target = Go.wpList _ _ _ ((⟨some _, .load _ (.tmp 2), _, _, _, _⟩ : Go.Oper) :: _) _ _; refine step_load rfl _ rfl b2 rfl p HR2.out ?_)
      | (go_at_call 8; refine (list_cs p _ HP.out (HT.out.on HB.out)).mono ?_; rintro e w5 ⟨v, rfl, hv, hb⟩; rw [HL.out] at hv; obtain ⟨a4, c4, rfl, hE⟩ := mvs_of hv; have HB := Lib.hid (below_on HB.out hb); clear hE hv hb)
      | (go_at_call 11; refine (cs_awake _ (HT.out.on HB.out)).mono ?_; rintro e w3 ⟨rfl, hb⟩; have HB := Lib.hid (below_on HB.out hb); clear hb))
  go_ret
  exact ⟨rfl, HB.out⟩
theorem walk (p : Nat → Int) (b : Bool) (w0 : WfP p) (w : World) (hD : TabDb w) (hL : TabLead w) (hV : TabVar w) (hG : TabGl w) : Calls Tryd.prog 6 #[.agg (posA p), .bool b] w fun e w' => e = .returned (.bool true) ∧ Below w.heap.size w w' := by
  by_cases h : p 78 ≤ 1
  · cases b
    · exact rights_0 p w (CsR.of w0) ⟨hD, hL, hV, hG⟩ h
    · exact rights_1 p w (CsR.of w0) ⟨hD, hL, hV, hG⟩ h
  · exact rights_no p b w (CsR.of w0) ⟨hD, hL, hV, hG⟩ (by omega)
end Go.Proofs.YtmlmilmfnioheaaDoor.castleRights
