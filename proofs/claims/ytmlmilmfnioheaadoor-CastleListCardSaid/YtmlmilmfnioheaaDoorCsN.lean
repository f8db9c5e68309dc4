/-
  The document's own List of layer 14; lists held against one another.
-/
import Derived.Test.YtmlmilmfnioheaaDoorCsM
import Derived.Test.YtmlmilmfnioheaaDoorCsE
namespace Go.Proofs.YtmlmilmfnioheaaDoor
open Go.RowKit Go.Shelf
set_option linter.unusedVariables false
set_option linter.unusedSimpArgs false
attribute [local go_sem] Oper.semAt_some

set_option maxRecDepth 100000 in
set_option maxHeartbeats 1000000 in
theorem same_any (L : List Mv) (a1 a2 : Option Addr) (c1 c2 : Nat) (w : World) (hn : L.length ≤ 1000000) (hv : ∀ (i : Nat) (m : Mv), L[i]? = some m → FitV m) (h1 : Mvs L a1 w) (h2 : Mvs L a2 w) : Calls Tryd.prog 9 #[.slice a1 L.length c1, .slice a2 L.length c2] w (BoL true w) := by
  have HV := Lib.hid hv
  have HE1 := Lib.hid h1
  have HE2 := Lib.hid h2
  have HN := Lib.hid hn
  clear hv h1 h2 hn
  have HB := Lib.hid (Below.refl w.heap.size w)
  go_enter Tryd.func9, Tryd.ntmps9
  go_wp2_with fail
  go_loopw [5] (fun i wr => ∃ k : Nat, k ≤ L.length ∧ i = .int .i64 (k : Int) ∧ Mvs L a1 wr ∧ Mvs L a2 wr ∧ Below w.heap.size w wr) (fun i _ => L.length - (intOf i).toNat)
  case atStart => exact ⟨0, by omega, rfl, HE1.out, HE2.out, HB.out⟩
  case round =>
    clear HE1 HE2 HB
    obtain ⟨k, hk, rfl, he1, he2, hb⟩ := hrel
    have HE1 := Lib.hid he1
    have HE2 := Lib.hid he2
    have HB := Lib.hid hb
    clear he1 he2 hb
    by_cases hlt : k < L.length
    · obtain ⟨m, hm⟩ : ∃ m, L[k]? = some m := ⟨_, List.getElem?_eq_getElem hlt⟩
      obtain ⟨g1, rfl, _⟩ := HE1.out.at hm
      obtain ⟨g2, rfl, _⟩ := HE2.out.at hm
      have HX := Lib.hid hm
      have HVm := Lib.hid (HV.out k m hm)
      have hw1 : (k : Int) < 1000000 := by have := HN.out; omega
      clear hm
      go_wp2_with fail
      refine late_begin 9 (by kernel_rfl) ?_
      refine ltk 0 (by kernel_rfl) (fun _ _ d _ _ h => by cases d <;> exact h) (fun o ho => ?_)
      simp only [qa, qb, qc, qd] at ho; subst ho
      apply Exists.intro
      refine ⟨Or.inl ⟨by kernel_rfl, fun w' hl => Or.inl ?_⟩, ?_⟩
      · (go_simp; try with_reducible rfl)
      simp only [Act.put, pa, pb, pc]
      refine ltk 1 (by kernel_rfl) (fun _ _ d _ _ h => by cases d <;> exact h) (fun o ho => ?_)
      simp only [qa, qb, qc, qd] at ho; subst ho
      apply Exists.intro
      refine ⟨Or.inl ⟨by kernel_rfl, fun w' hl => Or.inl ?_⟩, ?_⟩
      · (go_simp; try with_reducible rfl)
      simp only [Act.put, pa, pb, pc]
      refine ltk 2 (by kernel_rfl) (fun _ _ d _ _ h => by cases d <;> exact h) (fun o ho => ?_)
      simp only [qa, qb, qc, qd] at ho; subst ho
      refine ⟨.pointer (some ⟨g1, k * 5, none⟩), Or.inl ⟨by kernel_rfl, fun w' hl => Or.inl ?_⟩, ?_⟩
      · (go_simp <;> (intro hbad; omega))
      simp only [Act.put, pa, pb, pc]
      refine ltk 3 (by kernel_rfl) (fun _ _ d _ _ h => by cases d <;> exact h) (fun o ho => ?_)
      simp only [qa, qb, qc, qd] at ho; subst ho
      refine ⟨.agg (mvA m), Or.inl ⟨by kernel_rfl, fun w' hl => Or.inl (run_mvK _ rfl g1 k _ rfl (by first | omega | (simp; omega)) m ((HE1.out.later hl).get HX.out))⟩, ?_⟩
      simp only [Act.put, pa, pb, pc]
      refine ltk 4 (by kernel_rfl) (fun _ _ d _ _ h => by cases d <;> exact h) (fun o ho => ?_)
      simp only [qa, qb, qc, qd] at ho; subst ho
      apply Exists.intro
      refine ⟨Or.inl ⟨by kernel_rfl, fun w' hl => Or.inl ?_⟩, ?_⟩
      · (go_simp; try with_reducible rfl)
      simp only [Act.put, pa, pb, pc]
      refine ltk 5 (by kernel_rfl) (fun _ _ d _ _ h => by cases d <;> exact h) (fun o ho => ?_)
      simp only [qa, qb, qc, qd] at ho; subst ho
      apply Exists.intro
      refine ⟨Or.inl ⟨by kernel_rfl, fun w' hl => Or.inl ?_⟩, ?_⟩
      · (go_simp; try with_reducible rfl)
      simp only [Act.put, pa, pb, pc]
      refine ltk 6 (by kernel_rfl) (fun _ _ d _ _ h => by cases d <;> exact h) (fun o ho => ?_)
      simp only [qa, qb, qc, qd] at ho; subst ho
      refine ⟨.pointer (some ⟨g2, k * 5, none⟩), Or.inl ⟨by kernel_rfl, fun w' hl => Or.inl ?_⟩, ?_⟩
      · (go_simp <;> (intro hbad; omega))
      simp only [Act.put, pa, pb, pc]
      refine ltk 7 (by kernel_rfl) (fun _ _ d _ _ h => by cases d <;> exact h) (fun o ho => ?_)
      simp only [qa, qb, qc, qd] at ho; subst ho
      refine ⟨.agg (mvA m), Or.inl ⟨by kernel_rfl, fun w' hl => Or.inl (run_mvK _ rfl g2 k _ rfl (by first | omega | (simp; omega)) m ((HE2.out.later hl).get HX.out))⟩, ?_⟩
      simp only [Act.put, pa, pb, pc]
      refine ltk 8 (by kernel_rfl) (fun _ _ d _ _ h => by cases d <;> exact h) (fun o ho => ?_)
      simp only [qa, qb, qc, qd] at ho; subst ho
      refine ⟨.bool false, Or.inl ⟨by kernel_rfl, fun w' hl => Or.inl (run_mvN _ _ rfl m m rfl rfl HVm.out HVm.out true (mvE_true.2 rfl))⟩, ?_⟩
      simp only [Act.put, pa, pb, pc]
      refine late_end (by kernel_rfl) (fun wn hl => ?_)
      have HE1 := Lib.hid (HE1.out.later hl); have HE2 := Lib.hid (HE2.out.later hl); have HB := Lib.hid (below_on HB.out hl); clear hl
      go_wp2_with fail
      go_roundw
      case rel => exact ⟨k + 1, by omega, by go_num, HE1.out, HE2.out, HB.out⟩
      case measure => simp [intOf]; omega
    · obtain rfl : k = L.length := by omega
      go_wp2_with fail
      go_ret
      exact ⟨rfl, HB.out⟩
def rOne (p : Nat → Int) (n : Nat) : List Mv := bif mayB' p n then [mvC p n] else []
theorem rone_cam (p : Nat → Int) : rOne p 1 ++ rOne p 0 = camL p := by
  unfold rOne camL oneC mayB'
  cases thC p
  · rfl
  · simp only [Bool.true_and, cond_true]
def rPre (p : Nat → Int) (k : Nat) : List Mv := bif k == 0 then [] else bif k == 1 then rOne p 1 else rOne p 1 ++ rOne p 0
theorem rpre_len (p : Nat → Int) {k : Nat} (h : k ≤ 2) : (rPre p k).length ≤ 2 := by
  have ho : ∀ n, (rOne p n).length ≤ 1 := fun n => by unfold rOne; cases mayB' p n <;> simp
  have h1 := ho 1; have h0 := ho 0
  rcases (by omega : k = 0 ∨ k = 1 ∨ k = 2) with rfl | rfl | rfl
  · exact Nat.zero_le _
  · show (rOne p 1).length ≤ 2; omega
  · show (rOne p 1 ++ rOne p 0).length ≤ 2; rw [List.length_append]; omega
def TupL (f t : Int) (b : Bool) (w : World) (e : Ending) (w' : World) : Prop := e = .returned (.tuple #[.int .i64 f, .int .i64 t, .bool b]) ∧ Below w.heap.size w w'
theorem may_fit {p : Nat → Int} (ht : 0 ≤ p 78) {n : Nat} (h : mayB' p n = true) : -128 ≤ (mvC p n).f ∧ (mvC p n).f ≤ 127 ∧ -128 ≤ (mvC p n).t ∧ (mvC p n).t ≤ 127 := by
  unfold mayB' inC thC at h
  simp only [Bool.and_eq_true, decide_eq_true_eq] at h
  have := (fit_mvC (c := (p 78).toNat) (by omega) h.2.1).1
  exact ⟨this.f.1, this.f.2, this.t.1, this.t.2⟩
theorem rmayK0 {p : Nat → Int} {b : Bool} {f t : Int} (hb : mayB' p 0 = b) (hf : (bif b then (mvC p 0).f else 0) = f) (ht : (bif b then (mvC p 0).t else 0) = t) (w : World) (hp : CsR p) : Calls Tryd.prog 23 #[.agg (posA p), .int .i64 0] w (TupL f t b w) := by
  subst hb hf ht; exact cs_rmay0 p w hp
theorem rmayK1 {p : Nat → Int} {b : Bool} {f t : Int} (hb : mayB' p 1 = b) (hf : (bif b then (mvC p 1).f else 0) = f) (ht : (bif b then (mvC p 1).t else 0) = t) (w : World) (hp : CsR p) : Calls Tryd.prog 23 #[.agg (posA p), .int .i64 1] w (TupL f t b w) := by
  subst hb hf ht; exact cs_rmay1 p w hp
set_option maxRecDepth 100000 in
set_option maxHeartbeats 4000000 in
theorem rlist_cs (p : Nat → Int) (w : World) (hp : CsR p) : Calls Tryd.prog 10 #[.agg (posA p)] w (CamL p w) := by
  have HP := Lib.hid hp
  clear hp
  have HB := Lib.hid (Below.refl w.heap.size w)
  obtain ⟨i0, hi, hz0, hz1, hz2⟩ : ∃ i, Tryd.prog.info? 36 = some i ∧ i.zero = some (.agg (mvA mv0)) ∧ i.size = 5 ∧ i.bytes = 5 := by
    cases h : Tryd.prog.info? 36 with
    | none => have := infoMv; rw [h] at this; cases this
    | some i => have := infoMv; rw [h] at this; simp at this; exact ⟨i, rfl, this.1, this.2.1, this.2.2⟩
  go_enter Tryd.func10, Tryd.ntmps10
  go_wp2_with (first
      | (guard_target = Go.wpList _ _ _ ((⟨some 1, .box _ _, _, _, _, _⟩ : Go.Oper) :: _) _ _; refine step_box rfl _ rfl p rfl ?_; intro b1 w1 N R; have HG1 := Lib.hid (show w.heap.size ≤ b1 by have := HB.out.size; have := N.at_; omega); have HB := Lib.hid (below_on HB.out N.below); have HR1 := Lib.hid R; clear N R))
  obtain ⟨B1, hB1⟩ : ∃ B1, B1 = w1.heap.size := ⟨_, rfl⟩
  have HLt := Lib.hid (show b1 < B1 by rw [hB1]; exact HR1.out.lt)
  have HLw := Lib.hid (show w.heap.size ≤ B1 by rw [hB1]; exact HB.out.size)
  go_loopw [3, 4] (fun v i wr => ∃ k : Nat, k ≤ 2 ∧ i = .int .i64 (1 - (k : Int)) ∧ MvsO B1 (rPre p k) v wr ∧ Row wr b1 p ∧ Below w.heap.size w wr ∧ B1 ≤ wr.heap.size) (fun _ i _ => (intOf i + 1).toNat)
  case atStart => exact ⟨0, by omega, rfl, World.ownsRow_nil _ _ _ _, HR1.out, HB.out, by rw [hB1]; exact Nat.le_refl _⟩
  case round =>
    clear HR1 HB hB1
    obtain ⟨k, hk, rfl, hv, hr1, hb, hs⟩ := hrel
    have HV := Lib.hid hv
    have HR1 := Lib.hid hr1
    have HB := Lib.hid hb
    have HS := Lib.hid hs
    clear hv hr1 hb hs
    rcases (by omega : k = 0 ∨ k = 1 ∨ k = 2) with rfl | rfl | rfl
    · obtain ⟨mb, HMb⟩ : ∃ mb, Hid (mayB' p 1 = mb) := ⟨_, Lib.hid rfl⟩
      obtain ⟨f, HMf⟩ : ∃ f, Hid ((bif mb then (mvC p 1).f else 0) = f) := ⟨_, Lib.hid rfl⟩
      obtain ⟨t, HMt⟩ : ∃ t, Hid ((bif mb then (mvC p 1).t else 0) = t) := ⟨_, Lib.hid rfl⟩
      cases mb
      · have HOn := Lib.hid (show rOne p 1 = [] by unfold rOne; rw [HMb.out]; rfl)
        go_wp2_with (first
          | (guard_target = Go.wpList _ _ _ ((⟨some _, .load _ (.tmp 1), _, _, _, _⟩ : Go.Oper) :: _) _ _; refine step_load rfl _ rfl b1 rfl p HR1.out ?_)
          | (go_at_call 23; refine (rmayK1 HMb.out HMf.out HMt.out _ HP.out).mono ?_; rintro e w3 ⟨rfl, hb⟩; have HR1 := Lib.hid (HR1.out.later hb); have HV := Lib.hid (HV.out.later hb); have HS := Lib.hid (Nat.le_trans HS.out hb.size); have HB := Lib.hid (below_on HB.out hb); clear hb))
        go_roundw
        case rel => exact ⟨1, by decide, rfl, by rw [show rPre p 1 = rPre p 0 ++ rOne p 1 from rfl, HOn.out, List.append_nil]; exact HV.out, HR1.out, HB.out, HS.out⟩
        case measure => simp [intOf]
      · have hfit := may_fit HP.out.at_.turn.1 HMb.out
        have hfe : (mvC p 1).f = f := HMf.out
        have hte : (mvC p 1).t = t := HMt.out
        rw [hfe, hte] at hfit
        have hw1 : IntKind.i8.wrap f = f := wrap_i8c (by omega)
        have hw2 : IntKind.i8.wrap t = t := wrap_i8c (by omega)
        have HOn := Lib.hid (show rOne p 1 = [⟨f, t, 0, 0, true⟩] by unfold rOne; rw [HMb.out, cond_true, ← hfe, ← hte]; rfl)
        have HLn := Lib.hid (rpre_len p (k := 0) (by decide))
        clear hfe hte hfit
        go_wp2_with (first
          | (guard_target = Go.wpList _ _ _ ((⟨some _, .load _ (.tmp 1), _, _, _, _⟩ : Go.Oper) :: _) _ _; refine step_load rfl _ rfl b1 rfl p HR1.out ?_)
          | (go_at_call 23; refine (rmayK1 HMb.out HMf.out HMt.out _ HP.out).mono ?_; rintro e w3 ⟨rfl, hb⟩; have HR1 := Lib.hid (HR1.out.later hb); have HV := Lib.hid (HV.out.later hb); have HS := Lib.hid (Nat.le_trans HS.out hb.size); have HB := Lib.hid (below_on HB.out hb); clear hb)
          | (guard_target = Go.wpList _ _ _ ((⟨some 25, .build _ _, _, _, _, _⟩ : Go.Oper) :: _) _ _; refine step_build (op := ⟨some 25, .build _ _, _, _, _, _⟩) rfl 36 _ rfl (mvA ⟨f, t, 0, 0, true⟩) (by kernel_rfl) ?_; show wpList _ _ _ _ (Act.put _ _ (Value.agg #[.int .i8 f, .int .i8 t, .int .u8 0, .int .u8 0, .bool true])) _)
          | (at_builtin; refine wpList_append_own _ rfl _ _ 32 rfl B1 36 i0 (.agg (mvA mv0)) 5 5 Tryd.underlying32 hi hz0 hz1 hz2 rfl (by decide) _ _ _ rfl (World.ownsRow.alloc HV.out _) ⟨_, 0, none⟩ 1 1 (mvA ⟨f, t, 0, 0, true⟩).toList rfl rfl ?c1 ?c2 ?c3 ?c4 ?c5 ?_))
        case c1 => exact mcells_new _ (mvA ⟨f, t, 0, 0, true⟩) _
        case c2 => simp [mvA, Value.oneCell']
        case c3 => unfold maxLen; have := HLn.out; omega
        case c4 => have := HLn.out; omega
        case c5 => have := HS.out; simp; omega
        intro v' w2 hown' hgrow _
        have HVn := Lib.hid (HV.out.grow hown')
        have hkp := (Kept.of_call (fun k => u3.ownBlock = some k) (box_below _ _)).trans (mkept_grown hgrow)
        have HR1n := Lib.hid (row_keptE HR1.out hkp (fun e => by have h1 := HV.out.from e; have := HLt.out; omega))
        have HBn := Lib.hid (HB.out.trans (hkp.below (fun i hi => by have h1 := HV.out.from hi; have := HLw.out; omega) HB.out.size))
        have HSn := Lib.hid (Nat.le_trans HS.out hkp.size)
        clear hkp hown' hgrow
        go_wp2_with fail
        go_roundw
        case rel => exact ⟨1, by decide, rfl, by rw [show rPre p 1 = rPre p 0 ++ rOne p 1 from rfl, HOn.out]; exact HVn.out, HR1n.out, HBn.out, HSn.out⟩
        case measure => simp [intOf]
    · obtain ⟨mb, HMb⟩ : ∃ mb, Hid (mayB' p 0 = mb) := ⟨_, Lib.hid rfl⟩
      obtain ⟨f, HMf⟩ : ∃ f, Hid ((bif mb then (mvC p 0).f else 0) = f) := ⟨_, Lib.hid rfl⟩
      obtain ⟨t, HMt⟩ : ∃ t, Hid ((bif mb then (mvC p 0).t else 0) = t) := ⟨_, Lib.hid rfl⟩
      cases mb
      · have HOn := Lib.hid (show rOne p 0 = [] by unfold rOne; rw [HMb.out]; rfl)
        go_wp2_with (first
          | (guard_target = Go.wpList _ _ _ ((⟨some _, .load _ (.tmp 1), _, _, _, _⟩ : Go.Oper) :: _) _ _; refine step_load rfl _ rfl b1 rfl p HR1.out ?_)
          | (go_at_call 23; refine (rmayK0 HMb.out HMf.out HMt.out _ HP.out).mono ?_; rintro e w3 ⟨rfl, hb⟩; have HR1 := Lib.hid (HR1.out.later hb); have HV := Lib.hid (HV.out.later hb); have HS := Lib.hid (Nat.le_trans HS.out hb.size); have HB := Lib.hid (below_on HB.out hb); clear hb))
        go_roundw
        case rel => exact ⟨2, by decide, rfl, by rw [show rPre p 2 = rPre p 1 ++ rOne p 0 from rfl, HOn.out, List.append_nil]; exact HV.out, HR1.out, HB.out, HS.out⟩
        case measure => simp [intOf]
      · have hfit := may_fit HP.out.at_.turn.1 HMb.out
        have hfe : (mvC p 0).f = f := HMf.out
        have hte : (mvC p 0).t = t := HMt.out
        rw [hfe, hte] at hfit
        have hw1 : IntKind.i8.wrap f = f := wrap_i8c (by omega)
        have hw2 : IntKind.i8.wrap t = t := wrap_i8c (by omega)
        have HOn := Lib.hid (show rOne p 0 = [⟨f, t, 0, 0, true⟩] by unfold rOne; rw [HMb.out, cond_true, ← hfe, ← hte]; rfl)
        have HLn := Lib.hid (rpre_len p (k := 1) (by decide))
        clear hfe hte hfit
        go_wp2_with (first
          | (guard_target = Go.wpList _ _ _ ((⟨some _, .load _ (.tmp 1), _, _, _, _⟩ : Go.Oper) :: _) _ _; refine step_load rfl _ rfl b1 rfl p HR1.out ?_)
          | (go_at_call 23; refine (rmayK0 HMb.out HMf.out HMt.out _ HP.out).mono ?_; rintro e w3 ⟨rfl, hb⟩; have HR1 := Lib.hid (HR1.out.later hb); have HV := Lib.hid (HV.out.later hb); have HS := Lib.hid (Nat.le_trans HS.out hb.size); have HB := Lib.hid (below_on HB.out hb); clear hb)
          | (guard_target = Go.wpList _ _ _ ((⟨some 25, .build _ _, _, _, _, _⟩ : Go.Oper) :: _) _ _; refine step_build (op := ⟨some 25, .build _ _, _, _, _, _⟩) rfl 36 _ rfl (mvA ⟨f, t, 0, 0, true⟩) (by kernel_rfl) ?_; show wpList _ _ _ _ (Act.put _ _ (Value.agg #[.int .i8 f, .int .i8 t, .int .u8 0, .int .u8 0, .bool true])) _)
          | (at_builtin; refine wpList_append_own _ rfl _ _ 32 rfl B1 36 i0 (.agg (mvA mv0)) 5 5 Tryd.underlying32 hi hz0 hz1 hz2 rfl (by decide) _ _ _ rfl (World.ownsRow.alloc HV.out _) ⟨_, 0, none⟩ 1 1 (mvA ⟨f, t, 0, 0, true⟩).toList rfl rfl ?c1 ?c2 ?c3 ?c4 ?c5 ?_))
        case c1 => exact mcells_new _ (mvA ⟨f, t, 0, 0, true⟩) _
        case c2 => simp [mvA, Value.oneCell']
        case c3 => unfold maxLen; have := HLn.out; omega
        case c4 => have := HLn.out; omega
        case c5 => have := HS.out; simp; omega
        intro v' w2 hown' hgrow _
        have HVn := Lib.hid (HV.out.grow hown')
        have hkp := (Kept.of_call (fun k => u3.ownBlock = some k) (box_below _ _)).trans (mkept_grown hgrow)
        have HR1n := Lib.hid (row_keptE HR1.out hkp (fun e => by have h1 := HV.out.from e; have := HLt.out; omega))
        have HBn := Lib.hid (HB.out.trans (hkp.below (fun i hi => by have h1 := HV.out.from hi; have := HLw.out; omega) HB.out.size))
        have HSn := Lib.hid (Nat.le_trans HS.out hkp.size)
        clear hkp hown' hgrow
        go_wp2_with fail
        go_roundw
        case rel => exact ⟨2, by decide, rfl, by rw [show rPre p 2 = rPre p 1 ++ rOne p 0 from rfl, HOn.out]; exact HVn.out, HR1n.out, HBn.out, HSn.out⟩
        case measure => simp [intOf]
    · go_wp2_with fail
      exact bodyPost_ret (results_tmp rfl _ _ _) rfl ⟨_, rfl, by rw [← rone_cam]; exact World.ownsRow.mono HV.out HLw.out, HB.out⟩
end Go.Proofs.YtmlmilmfnioheaaDoor
