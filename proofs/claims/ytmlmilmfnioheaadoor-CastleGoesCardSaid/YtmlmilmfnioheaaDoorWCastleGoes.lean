/-
  The walk of CastleGoes.
-/
import Derived.Test.YtmlmilmfnioheaaDoorCsJ
import Derived.Test.YtmlmilmfnioheaaDoorCsH
import Derived.WalkKit
import Derived.OpenShut
namespace Go.Proofs.YtmlmilmfnioheaaDoor.castleGoes
open Go.RowKit
set_option linter.unusedVariables false
set_option linter.unusedSimpArgs false
set_option maxRecDepth 100000 in
set_option maxHeartbeats 8000000 in
theorem walk (p : Nat → Int) (w0 : WfP p) (w : World) (hD : TabDb w) (hL : TabLead w) (hV : TabVar w) (hG : TabGl w) : Calls Tryd.prog 7 #[.agg (posA p)] w fun e w' => e = .returned (.bool true) ∧ Below w.heap.size w w' := by
  have HT := Lib.hid (show CsT w from ⟨hD, hL, hV, hG⟩)
  have HP := Lib.hid (CsR.of w0)
  obtain ⟨L, hL⟩ : ∃ L, camL p = L := ⟨_, rfl⟩
  have HL := Lib.hid hL
  have HM := Lib.hid (show ∀ (i : Nat) (m : Mv), L[i]? = some m → ∃ c n f t : Nat, m = ⟨(f : Int), (t : Int), 0, 0, true⟩ ∧ CamM p c n f t by rw [← hL]; exact fun i m h => cam_is HP.out.at_.turn.1 (List.mem_of_getElem? h))
  have HLn := Lib.hid (show L.length ≤ 2 by rw [← hL]; exact cam_len p)
  clear hD hV hG w0 hL
  have HB := Lib.hid (Below.refl w.heap.size w)
  go_enter Tryd.func7, Tryd.ntmps7
  go_wp2_with (first
      | (guard_target = Go.wpList _ _ _ ((⟨some 1, .box _ _, _, _, _, _⟩ : Go.Oper) :: _) _ _; refine step_box rfl _ rfl p rfl ?_; intro b1 w1 N R; have HG1 := Lib.hid (show w.heap.size ≤ b1 by have := HB.out.size; have := N.at_; omega); have HB := Lib.hid (below_on HB.out N.below); have HR1 := Lib.hid R; clear N R)
      | (guard_target = Go.wpList _ _ _ ((⟨some _, .load _ (.tmp 1), _, _, _, _⟩ : Go.Oper) :: _) _ _; refine step_load rfl _ rfl b1 rfl p HR1.out ?_)
      | (go_at_call 8; refine (list_cs p _ HP.out (HT.out.on HB.out)).mono ?_; rintro e w5 ⟨v, rfl, hv, hb⟩; rw [HL.out] at hv; obtain ⟨a4, c4, rfl, hE⟩ := mvs_of hv; have HE := Lib.hid hE; have HR1 := Lib.hid (HR1.out.later hb); have HB := Lib.hid (below_on HB.out hb); clear hE hv hb))
  go_loopw [4] (fun i wr => ∃ k : Nat, k ≤ L.length ∧ i = .int .i64 (k : Int) ∧ Row wr b1 p ∧ Mvs L a4 wr ∧ Below w.heap.size w wr) (fun i _ => L.length - (intOf i).toNat)
  case atStart => exact ⟨0, by omega, rfl, HR1.out, HE.out, HB.out⟩
  case round =>
    clear HR1 HE HB
    obtain ⟨i, hi, rfl, hr1, he, hb⟩ := hrel
    have HR1 := Lib.hid hr1
    have HE := Lib.hid he
    have HB := Lib.hid hb
    clear hr1 he hb
    by_cases hl2 : i < L.length
    · obtain ⟨m, hm⟩ : ∃ m, L[i]? = some m := ⟨_, List.getElem?_eq_getElem hl2⟩
      obtain ⟨g4, rfl, _⟩ := HE.out.at hm
      obtain ⟨c, n, f, t, rfl, cm⟩ := HM.out i m hm
      have HX := Lib.hid hm
      have HLt := Lib.hid hl2
      have hw1 : (i : Int) < 2 := by have := HLn.out; omega
      have hf64 := cm.f64
      have ht64 := cm.t64
      have HFm := Lib.hid (show FitV ⟨(f : Int), (t : Int), 0, 0, true⟩ from ⟨by show -128 ≤ (f : Int) ∧ (f : Int) ≤ 127; omega, by show -128 ≤ (t : Int) ∧ (t : Int) ≤ 127; omega, by show (0 : Int) ≤ 0 ∧ (0 : Int) ≤ 255; omega, by show (0 : Int) ≤ 0 ∧ (0 : Int) ≤ 255; omega⟩)
      obtain ⟨r, hr⟩ : ∃ r, (t : Int) % 8 = r := ⟨_, rfl⟩
      have hr0 : 0 ≤ r ∧ r ≤ 7 := by omega
      have ew : IntKind.i64.wrap r = r := by rw [IntKind.wrap_i64]; omega
      have em : IntKind.i8.wrap ((t : Int).tmod 8) = r := by rw [Int.tmod_eq_emod_of_nonneg (by omega), hr]; exact wrap_i8c (by omega)
      have ew2 := ew
      have em3 : (t : Int).tmod 8 = r := by rw [Int.tmod_eq_emod_of_nonneg (by omega), hr]
      have em2 : IntKind.i8.wrap ((t : Int) % 8) = r := by rw [hr]; exact wrap_i8c (by omega)
      clear hm hl2 hi
      have c2 := cm.c2
      have n2 := cm.n2
      rcases (by omega : c = 0 ∨ c = 1) with rfl | rfl
      · rcases (by omega : n = 0 ∨ n = 1) with rfl | rfl
        · have HC := Lib.hid (show p 78 = 0 from cm.turn)
          have HK1 := Lib.hid (show hmC (p 78) + gkC ((0 : Nat) : Int) = 6 by rw [HC.out]; rfl)
          have HK2 := Lib.hid (show hmC (p 78) + grC ((0 : Nat) : Int) = 5 by rw [HC.out]; rfl)
          have HSd := Lib.hid cm.sd
          have HKg := Lib.hid (show p (1 + f) = 6 from cm.king)
          have HRk := Lib.hid (show p (1 + t) = 4 from cm.rook)
          have HFl := Lib.hid (show p (79 + 0 * 2 + 0) = r from cm.file.trans hr)
          have hs := cm.side
          have hh := cm.home
          have ef : IntKind.i8.wrap ((f : Int).tdiv 8) = 0 := by rw [Int.tdiv_eq_ediv_of_nonneg (by omega)]; rw [hh.1]; rfl
          have et : IntKind.i8.wrap ((t : Int).tdiv 8) = 0 := by rw [Int.tdiv_eq_ediv_of_nonneg (by omega)]; rw [hh.2]; rfl
          have ef2 : IntKind.i8.wrap ((f : Int) / 8) = 0 := by rw [hh.1]; rfl
          have et2 : IntKind.i8.wrap ((t : Int) / 8) = 0 := by rw [hh.2]; rfl
          have q1 : decide (t ≤ f) = false := decide_eq_false (by simp at hs; omega)
          have q2 : decide ((t : Int) ≤ (f : Int)) = false := decide_eq_false (by simp at hs; omega)
          have q3 : decide (f ≤ t) = true := decide_eq_true (by simp at hs; omega)
          have q4 : decide ((f : Int) ≤ (t : Int)) = true := decide_eq_true (by simp at hs; omega)
          clear cm hs hh c2 n2 hr
          go_wp2_with (first
            | (guard_target = Go.wpList _ _ _ ((⟨some 21, .load _ (.tmp 20), _, _, _, _⟩ : Go.Oper) :: _) _ _; refine step_mvI rfl _ rfl g4 i _ rfl (by first | omega | (simp; omega)) ⟨(f : Int), (t : Int), 0, 0, true⟩ (HE.out.get HX.out) ?_)
            | (guard_target = Go.wpList _ _ _ ((⟨some 5, .alloc _, _, _, _, _⟩ : Go.Oper) :: _) _ _; refine blk_alloc rfl 36 rfl (mvA mv0) zeroMv ?_; intro b5 wn N R; have HG5 := Lib.hid (show w.heap.size ≤ b5 by have := HB.out.size; have := N.at_; omega); have HY1 := Lib.hid (show b1 ≠ b5 from Nat.ne_of_lt (by have h1 := HR1.out.lt; have := N.at_; omega)); have HY3 := Lib.hid (show g4 ≠ b5 from Nat.ne_of_lt (by have h1 := Mvs.lt HE.out HX.out; have := N.at_; omega)); have HR1 := Lib.hid (HR1.out.later N.below); have HE := Lib.hid (HE.out.later N.below); have HR5 := Lib.hid R; have HB := Lib.hid (below_on HB.out N.below); clear N R)
            | (guard_target = Go.wpList _ _ _ ((⟨none, .store _ (.tmp 5) _, _, _, _, _⟩ : Go.Oper) :: _) _ _; refine blk_store rfl 36 _ _ rfl b5 rfl (mvA mv0) (mvA ⟨(f : Int), (t : Int), 0, 0, true⟩) rfl HR5.out rfl (mv_one _) sizeMv ?_; intro wn U R; have HR1 := Lib.hid (HR1.out.apart U HY1.out); have HE := Lib.hid (Mvs.upd HE.out U HY3.out); have HR5 := Lib.hid R; have HB := Lib.hid (HB.out.trans (U.below HG5.out)); clear U R)
            | (guard_target = Go.wpList _ _ _ ((⟨some _, .load _ (.tmp 1), _, _, _, _⟩ : Go.Oper) :: _) _ _; refine step_load rfl _ rfl b1 rfl p HR1.out ?_)
            | (guard_target = Go.wpList _ _ _ ((⟨some _, .load _ (.tmp 5), _, _, _, _⟩ : Go.Oper) :: _) _ _; refine blk_load rfl 36 _ rfl b5 rfl (mvA ⟨(f : Int), (t : Int), 0, 0, true⟩) HR5.out _ Tryd.underlying36 rfl sizeMv ?_)
            | (go_at_call 13; refine (cs_goals p ⟨(f : Int), (t : Int), 0, 0, true⟩ 0 (by decide) _ HFm.out HSd.out (HT.out.on HB.out).gl).mono ?_; rintro e w3 ⟨rfl, hb⟩; rw [HK1.out, HK2.out]; have HR1 := Lib.hid (HR1.out.later hb); have HR5 := Lib.hid (HR5.out.later hb); have HE := Lib.hid (HE.out.later hb); have HB := Lib.hid (below_on HB.out hb); clear hb)
            | (go_at_call 14; refine (cs_side p ⟨(f : Int), (t : Int), 0, 0, true⟩ _ HFm.out).mono ?_; rintro e w3 ⟨rfl, hb⟩; rw [HSd.out]; have HR1 := Lib.hid (HR1.out.later hb); have HR5 := Lib.hid (HR5.out.later hb); have HE := Lib.hid (HE.out.later hb); have HB := Lib.hid (below_on HB.out hb); clear hb))
          try simp only [List.append]
          refine late_begin 55 (by kernel_rfl) ?_
          refine ltk 0 (by kernel_rfl) (fun _ _ d _ _ h => by cases d <;> exact h) (fun o ho => ?_)
          simp only [qa, qb, qc, qd] at ho; subst ho
          apply Exists.intro
          refine ⟨Or.inl ⟨by kernel_rfl, fun w' hl => Or.inl ?_⟩, ?_⟩
          · (go_simp; try with_reducible rfl)
          simp only [Act.put, pa, pb, pc]
          refine ltk 1 (by kernel_rfl) (fun _ _ d _ _ h => by cases d <;> exact h) (fun o ho => ?_)
          simp only [qa, qb, qc, qd] at ho; subst ho
          apply Exists.intro
          refine ⟨Or.inl ⟨by kernel_rfl, fun w' hl => Or.inl ?_⟩, ?_⟩
          · (go_simp; try with_reducible rfl)
          simp only [Act.put, pa, pb, pc]
          refine ltk 2 (by kernel_rfl) (fun _ _ d _ _ h => by cases d <;> exact h) (fun o ho => ?_)
          simp only [qa, qb, qc, qd] at ho; subst ho
          apply Exists.intro
          refine ⟨Or.inl ⟨by kernel_rfl, fun w' hl => Or.inl ?_⟩, ?_⟩
          · (go_simp; try with_reducible rfl)
          simp only [Act.put, pa, pb, pc]
          refine ltk 3 (by kernel_rfl) (fun _ _ d _ _ h => by cases d <;> exact h) (fun o ho => ?_)
          simp only [qa, qb, qc, qd] at ho; subst ho
          apply Exists.intro
          refine ⟨Or.inl ⟨by kernel_rfl, fun w' hl => Or.inl ?_⟩, ?_⟩
          · (go_simp; try with_reducible rfl)
          simp only [Act.put, pa, pb, pc]
          refine ltk 4 (by kernel_rfl) (fun _ _ d _ _ h => by cases d <;> exact h) (fun o ho => ?_)
          simp only [qa, qb, qc, qd] at ho; subst ho
          apply Exists.intro
          refine ⟨Or.inl ⟨by kernel_rfl, fun w' hl => Or.inl ?_⟩, ?_⟩
          · (go_simp; try with_reducible rfl)
          simp only [Act.put, pa, pb, pc]
          refine ltk 5 (by kernel_rfl) (fun _ _ d _ _ h => by cases d <;> exact h) (fun o ho => ?_)
          simp only [qa, qb, qc, qd] at ho; subst ho
          apply Exists.intro
          refine ⟨Or.inl ⟨by kernel_rfl, fun w' hl => Or.inl ?_⟩, ?_⟩
          · (go_simp; try with_reducible rfl)
          simp only [Act.put, pa, pb, pc]
          refine ltk 6 (by kernel_rfl) (fun _ _ d _ _ h => by cases d <;> exact h) (fun o ho => ?_)
          simp only [qa, qb, qc, qd] at ho; subst ho
          apply Exists.intro
          refine ⟨Or.inl ⟨by kernel_rfl, fun w' hl => Or.inl ?_⟩, ?_⟩
          · (go_simp; try with_reducible rfl)
          simp only [Act.put, pa, pb, pc]
          refine ltk 7 (by kernel_rfl) (fun _ _ d _ _ h => by cases d <;> exact h) (fun o ho => ?_)
          simp only [qa, qb, qc, qd] at ho; subst ho
          apply Exists.intro
          refine ⟨Or.inl ⟨by kernel_rfl, fun w' hl => Or.inl ?_⟩, ?_⟩
          · (go_simp; try with_reducible rfl)
          simp only [Act.put, pa, pb, pc]
          refine ltk 8 (by kernel_rfl) (fun _ _ d _ _ h => by cases d <;> exact h) (fun o ho => ?_)
          simp only [qa, qb, qc, qd] at ho; subst ho
          refine ⟨.int .i8 (f : Int), Or.inl ⟨by kernel_rfl, fun w' hl => Or.inl (run_get 26 _ rfl b5 0 rfl Tryd.underlying26 rfl (.int .i8 (f : Int)) (((HR5.out.later hl).cell 0).trans rfl))⟩, ?_⟩
          simp only [Act.put, pa, pb, pc]
          refine ltk 9 (by kernel_rfl) (fun _ _ d _ _ h => by cases d <;> exact h) (fun o ho => ?_)
          simp only [qa, qb, qc, qd] at ho; subst ho
          apply Exists.intro
          refine ⟨Or.inl ⟨by kernel_rfl, fun w' hl => Or.inl ?_⟩, ?_⟩
          · (go_simp; try with_reducible rfl)
          simp only [Act.put, pa, pb, pc]
          refine ltk 10 (by kernel_rfl) (fun _ _ d _ _ h => by cases d <;> exact h) (fun o ho => ?_)
          simp only [qa, qb, qc, qd] at ho; subst ho
          refine ⟨.pointer (some ⟨b1, 1 + f, none⟩), Or.inl ⟨by kernel_rfl, fun w' hl => Or.inl ?_⟩, ?_⟩
          · (go_simp <;> (intro hbad; omega))
          simp only [Act.put, pa, pb, pc]
          refine ltk 11 (by kernel_rfl) (fun _ _ d _ _ h => by cases d <;> exact h) (fun o ho => ?_)
          simp only [qa, qb, qc, qd] at ho; subst ho
          refine ⟨.int .u8 6, Or.inl ⟨by kernel_rfl, fun w' hl => Or.inl (run_get 5 _ rfl b1 (1 + f) rfl Tryd.underlying5 rfl (.int .u8 6) (((HR1.out.later hl).cell (1 + f) (by omega)).trans (by rw [kAt_board (Nat.zero_le _) hf64, HKg.out])))⟩, ?_⟩
          simp only [Act.put, pa, pb, pc]
          refine ltk 12 (by kernel_rfl) (fun _ _ d _ _ h => by cases d <;> exact h) (fun o ho => ?_)
          simp only [qa, qb, qc, qd] at ho; subst ho
          apply Exists.intro
          refine ⟨Or.inl ⟨by kernel_rfl, fun w' hl => Or.inl ?_⟩, ?_⟩
          · (go_simp; try with_reducible rfl)
          simp only [Act.put, pa, pb, pc]
          refine ltk 13 (by kernel_rfl) (fun _ _ d _ _ h => by cases d <;> exact h) (fun o ho => ?_)
          simp only [qa, qb, qc, qd] at ho; subst ho
          refine ⟨.int .u8 0, Or.inl ⟨by kernel_rfl, fun w' hl => Or.inl (run_get 5 _ rfl b1 78 rfl Tryd.underlying5 rfl (.int .u8 0) (((HR1.out.later hl).cell 78 (by decide)).trans (by rw [HC.out]; rfl)))⟩, ?_⟩
          simp only [Act.put, pa, pb, pc]
          refine ltk 14 (by kernel_rfl) (fun _ _ d _ _ h => by cases d <;> exact h) (fun o ho => ?_)
          simp only [qa, qb, qc, qd] at ho; subst ho
          refine ⟨.int .u8 0, Or.inl ⟨by kernel_rfl, fun w' hl => Or.inl ?_⟩, ?_⟩
          · (go_simp <;> (first | rfl | rw [ew] | rw [ew2] | omega))
          simp only [Act.put, pa, pb, pc]
          refine ltk 15 (by kernel_rfl) (fun _ _ d _ _ h => by cases d <;> exact h) (fun o ho => ?_)
          simp only [qa, qb, qc, qd] at ho; subst ho
          refine ⟨.int .u8 6, Or.inl ⟨by kernel_rfl, fun w' hl => Or.inl ?_⟩, ?_⟩
          · (go_simp <;> (first | rfl | rw [ew] | rw [ew2] | omega))
          simp only [Act.put, pa, pb, pc]
          refine ltk 16 (by kernel_rfl) (fun _ _ d _ _ h => by cases d <;> exact h) (fun o ho => ?_)
          simp only [qa, qb, qc, qd] at ho; subst ho
          apply Exists.intro
          refine ⟨Or.inl ⟨by kernel_rfl, fun w' hl => Or.inl ?_⟩, ?_⟩
          · (go_simp; try with_reducible rfl)
          simp only [Act.put, pa, pb, pc]
          refine ltk 17 (by kernel_rfl) (fun _ _ d _ _ h => by cases d <;> exact h) (fun o ho => ?_)
          simp only [qa, qb, qc, qd] at ho; subst ho
          apply Exists.intro
          refine ⟨Or.inl ⟨by kernel_rfl, fun w' hl => Or.inl ?_⟩, ?_⟩
          · (go_simp; try with_reducible rfl)
          simp only [Act.put, pa, pb, pc]
          refine ltk 18 (by kernel_rfl) (fun _ _ d _ _ h => by cases d <;> exact h) (fun o ho => ?_)
          simp only [qa, qb, qc, qd] at ho; subst ho
          apply Exists.intro
          refine ⟨Or.inl ⟨by kernel_rfl, fun w' hl => Or.inl ?_⟩, ?_⟩
          · (go_simp; try with_reducible rfl)
          simp only [Act.put, pa, pb, pc]
          refine ltk 19 (by kernel_rfl) (fun _ _ d _ _ h => by cases d <;> exact h) (fun o ho => ?_)
          simp only [qa, qb, qc, qd] at ho; subst ho
          apply Exists.intro
          refine ⟨Or.inl ⟨by kernel_rfl, fun w' hl => Or.inl ?_⟩, ?_⟩
          · (go_simp; try with_reducible rfl)
          simp only [Act.put, pa, pb, pc]
          refine ltk 20 (by kernel_rfl) (fun _ _ d _ _ h => by cases d <;> exact h) (fun o ho => ?_)
          simp only [qa, qb, qc, qd] at ho; subst ho
          refine ⟨.int .i8 (t : Int), Or.inl ⟨by kernel_rfl, fun w' hl => Or.inl (run_get 26 _ rfl b5 1 rfl Tryd.underlying26 rfl (.int .i8 (t : Int)) (((HR5.out.later hl).cell 1).trans rfl))⟩, ?_⟩
          simp only [Act.put, pa, pb, pc]
          refine ltk 21 (by kernel_rfl) (fun _ _ d _ _ h => by cases d <;> exact h) (fun o ho => ?_)
          simp only [qa, qb, qc, qd] at ho; subst ho
          apply Exists.intro
          refine ⟨Or.inl ⟨by kernel_rfl, fun w' hl => Or.inl ?_⟩, ?_⟩
          · (go_simp; try with_reducible rfl)
          simp only [Act.put, pa, pb, pc]
          refine ltk 22 (by kernel_rfl) (fun _ _ d _ _ h => by cases d <;> exact h) (fun o ho => ?_)
          simp only [qa, qb, qc, qd] at ho; subst ho
          refine ⟨.pointer (some ⟨b1, 1 + t, none⟩), Or.inl ⟨by kernel_rfl, fun w' hl => Or.inl ?_⟩, ?_⟩
          · (go_simp <;> (intro hbad; omega))
          simp only [Act.put, pa, pb, pc]
          refine ltk 23 (by kernel_rfl) (fun _ _ d _ _ h => by cases d <;> exact h) (fun o ho => ?_)
          simp only [qa, qb, qc, qd] at ho; subst ho
          refine ⟨.int .u8 4, Or.inl ⟨by kernel_rfl, fun w' hl => Or.inl (run_get 5 _ rfl b1 (1 + t) rfl Tryd.underlying5 rfl (.int .u8 4) (((HR1.out.later hl).cell (1 + t) (by omega)).trans (by rw [kAt_board (Nat.zero_le _) ht64, HRk.out])))⟩, ?_⟩
          simp only [Act.put, pa, pb, pc]
          refine ltk 24 (by kernel_rfl) (fun _ _ d _ _ h => by cases d <;> exact h) (fun o ho => ?_)
          simp only [qa, qb, qc, qd] at ho; subst ho
          apply Exists.intro
          refine ⟨Or.inl ⟨by kernel_rfl, fun w' hl => Or.inl ?_⟩, ?_⟩
          · (go_simp; try with_reducible rfl)
          simp only [Act.put, pa, pb, pc]
          refine ltk 25 (by kernel_rfl) (fun _ _ d _ _ h => by cases d <;> exact h) (fun o ho => ?_)
          simp only [qa, qb, qc, qd] at ho; subst ho
          refine ⟨.int .u8 0, Or.inl ⟨by kernel_rfl, fun w' hl => Or.inl (run_get 5 _ rfl b1 78 rfl Tryd.underlying5 rfl (.int .u8 0) (((HR1.out.later hl).cell 78 (by decide)).trans (by rw [HC.out]; rfl)))⟩, ?_⟩
          simp only [Act.put, pa, pb, pc]
          refine ltk 26 (by kernel_rfl) (fun _ _ d _ _ h => by cases d <;> exact h) (fun o ho => ?_)
          simp only [qa, qb, qc, qd] at ho; subst ho
          refine ⟨.int .u8 0, Or.inl ⟨by kernel_rfl, fun w' hl => Or.inl ?_⟩, ?_⟩
          · (go_simp <;> (first | rfl | rw [ew] | rw [ew2] | omega))
          simp only [Act.put, pa, pb, pc]
          refine ltk 27 (by kernel_rfl) (fun _ _ d _ _ h => by cases d <;> exact h) (fun o ho => ?_)
          simp only [qa, qb, qc, qd] at ho; subst ho
          refine ⟨.int .u8 4, Or.inl ⟨by kernel_rfl, fun w' hl => Or.inl ?_⟩, ?_⟩
          · (go_simp <;> (first | rfl | rw [ew] | rw [ew2] | omega))
          simp only [Act.put, pa, pb, pc]
          refine ltk 28 (by kernel_rfl) (fun _ _ d _ _ h => by cases d <;> exact h) (fun o ho => ?_)
          simp only [qa, qb, qc, qd] at ho; subst ho
          apply Exists.intro
          refine ⟨Or.inl ⟨by kernel_rfl, fun w' hl => Or.inl ?_⟩, ?_⟩
          · (go_simp; try with_reducible rfl)
          simp only [Act.put, pa, pb, pc]
          refine ltk 29 (by kernel_rfl) (fun _ _ d _ _ h => by cases d <;> exact h) (fun o ho => ?_)
          simp only [qa, qb, qc, qd] at ho; subst ho
          apply Exists.intro
          refine ⟨Or.inl ⟨by kernel_rfl, fun w' hl => Or.inl ?_⟩, ?_⟩
          · (go_simp; try with_reducible rfl)
          simp only [Act.put, pa, pb, pc]
          refine ltk 30 (by kernel_rfl) (fun _ _ d _ _ h => by cases d <;> exact h) (fun o ho => ?_)
          simp only [qa, qb, qc, qd] at ho; subst ho
          apply Exists.intro
          refine ⟨Or.inl ⟨by kernel_rfl, fun w' hl => Or.inl ?_⟩, ?_⟩
          · (go_simp; try with_reducible rfl)
          simp only [Act.put, pa, pb, pc]
          refine ltk 31 (by kernel_rfl) (fun _ _ d _ _ h => by cases d <;> exact h) (fun o ho => ?_)
          simp only [qa, qb, qc, qd] at ho; subst ho
          apply Exists.intro
          refine ⟨Or.inl ⟨by kernel_rfl, fun w' hl => Or.inl ?_⟩, ?_⟩
          · (go_simp; try with_reducible rfl)
          simp only [Act.put, pa, pb, pc]
          refine ltk 32 (by kernel_rfl) (fun _ _ d _ _ h => by cases d <;> exact h) (fun o ho => ?_)
          simp only [qa, qb, qc, qd] at ho; subst ho
          refine ⟨.int .i8 (f : Int), Or.inl ⟨by kernel_rfl, fun w' hl => Or.inl (run_get 26 _ rfl b5 0 rfl Tryd.underlying26 rfl (.int .i8 (f : Int)) (((HR5.out.later hl).cell 0).trans rfl))⟩, ?_⟩
          simp only [Act.put, pa, pb, pc]
          refine ltk 33 (by kernel_rfl) (fun _ _ d _ _ h => by cases d <;> exact h) (fun o ho => ?_)
          simp only [qa, qb, qc, qd] at ho; subst ho
          refine ⟨.int .i8 0, Or.inl ⟨by kernel_rfl, fun w' hl => Or.inl ?_⟩, ?_⟩
          · (go_simp <;> (first | rfl | rw [ef] | rw [ef2] | omega))
          simp only [Act.put, pa, pb, pc]
          refine ltk 34 (by kernel_rfl) (fun _ _ d _ _ h => by cases d <;> exact h) (fun o ho => ?_)
          simp only [qa, qb, qc, qd] at ho; subst ho
          apply Exists.intro
          refine ⟨Or.inl ⟨by kernel_rfl, fun w' hl => Or.inl ?_⟩, ?_⟩
          · (go_simp; try with_reducible rfl)
          simp only [Act.put, pa, pb, pc]
          refine ltk 35 (by kernel_rfl) (fun _ _ d _ _ h => by cases d <;> exact h) (fun o ho => ?_)
          simp only [qa, qb, qc, qd] at ho; subst ho
          refine ⟨.int .i8 (t : Int), Or.inl ⟨by kernel_rfl, fun w' hl => Or.inl (run_get 26 _ rfl b5 1 rfl Tryd.underlying26 rfl (.int .i8 (t : Int)) (((HR5.out.later hl).cell 1).trans rfl))⟩, ?_⟩
          simp only [Act.put, pa, pb, pc]
          refine ltk 36 (by kernel_rfl) (fun _ _ d _ _ h => by cases d <;> exact h) (fun o ho => ?_)
          simp only [qa, qb, qc, qd] at ho; subst ho
          refine ⟨.int .i8 0, Or.inl ⟨by kernel_rfl, fun w' hl => Or.inl ?_⟩, ?_⟩
          · (go_simp <;> (first | rfl | rw [et] | rw [et2] | omega))
          simp only [Act.put, pa, pb, pc]
          refine ltk 37 (by kernel_rfl) (fun _ _ d _ _ h => by cases d <;> exact h) (fun o ho => ?_)
          simp only [qa, qb, qc, qd] at ho; subst ho
          apply Exists.intro
          refine ⟨Or.inl ⟨by kernel_rfl, fun w' hl => Or.inl ?_⟩, ?_⟩
          · (go_simp; try with_reducible rfl)
          simp only [Act.put, pa, pb, pc]
          refine ltk 38 (by kernel_rfl) (fun _ _ d _ _ h => by cases d <;> exact h) (fun o ho => ?_)
          simp only [qa, qb, qc, qd] at ho; subst ho
          apply Exists.intro
          refine ⟨Or.inl ⟨by kernel_rfl, fun w' hl => Or.inl ?_⟩, ?_⟩
          · (go_simp; try with_reducible rfl)
          simp only [Act.put, pa, pb, pc]
          refine ltk 39 (by kernel_rfl) (fun _ _ d _ _ h => by cases d <;> exact h) (fun o ho => ?_)
          simp only [qa, qb, qc, qd] at ho; subst ho
          apply Exists.intro
          refine ⟨Or.inl ⟨by kernel_rfl, fun w' hl => Or.inl ?_⟩, ?_⟩
          · (go_simp; try with_reducible rfl)
          simp only [Act.put, pa, pb, pc]
          refine ltk 40 (by kernel_rfl) (fun _ _ d _ _ h => by cases d <;> exact h) (fun o ho => ?_)
          simp only [qa, qb, qc, qd] at ho; subst ho
          apply Exists.intro
          refine ⟨Or.inl ⟨by kernel_rfl, fun w' hl => Or.inl ?_⟩, ?_⟩
          · (go_simp; try with_reducible rfl)
          simp only [Act.put, pa, pb, pc]
          refine ltk 41 (by kernel_rfl) (fun _ _ d _ _ h => by cases d <;> exact h) (fun o ho => ?_)
          simp only [qa, qb, qc, qd] at ho; subst ho
          apply Exists.intro
          refine ⟨Or.inl ⟨by kernel_rfl, fun w' hl => Or.inl ?_⟩, ?_⟩
          · (go_simp; try with_reducible rfl)
          simp only [Act.put, pa, pb, pc]
          refine ltk 42 (by kernel_rfl) (fun _ _ d _ _ h => by cases d <;> exact h) (fun o ho => ?_)
          simp only [qa, qb, qc, qd] at ho; subst ho
          apply Exists.intro
          refine ⟨Or.inl ⟨by kernel_rfl, fun w' hl => Or.inl ?_⟩, ?_⟩
          · (go_simp; try with_reducible rfl)
          simp only [Act.put, pa, pb, pc]
          refine ltk 43 (by kernel_rfl) (fun _ _ d _ _ h => by cases d <;> exact h) (fun o ho => ?_)
          simp only [qa, qb, qc, qd] at ho; subst ho
          refine ⟨.int .i8 (f : Int), Or.inl ⟨by kernel_rfl, fun w' hl => Or.inl (run_get 26 _ rfl b5 0 rfl Tryd.underlying26 rfl (.int .i8 (f : Int)) (((HR5.out.later hl).cell 0).trans rfl))⟩, ?_⟩
          simp only [Act.put, pa, pb, pc]
          refine ltk 44 (by kernel_rfl) (fun _ _ d _ _ h => by cases d <;> exact h) (fun o ho => ?_)
          simp only [qa, qb, qc, qd] at ho; subst ho
          refine ⟨.int .i8 0, Or.inl ⟨by kernel_rfl, fun w' hl => Or.inl ?_⟩, ?_⟩
          · (go_simp <;> (first | rfl | rw [ef] | rw [ef2] | omega))
          simp only [Act.put, pa, pb, pc]
          refine ltk 45 (by kernel_rfl) (fun _ _ d _ _ h => by cases d <;> exact h) (fun o ho => ?_)
          simp only [qa, qb, qc, qd] at ho; subst ho
          apply Exists.intro
          refine ⟨Or.inl ⟨by kernel_rfl, fun w' hl => Or.inl ?_⟩, ?_⟩
          · (go_simp; try with_reducible rfl)
          simp only [Act.put, pa, pb, pc]
          refine ltk 46 (by kernel_rfl) (fun _ _ d _ _ h => by cases d <;> exact h) (fun o ho => ?_)
          simp only [qa, qb, qc, qd] at ho; subst ho
          apply Exists.intro
          refine ⟨Or.inl ⟨by kernel_rfl, fun w' hl => Or.inl ?_⟩, ?_⟩
          · (go_simp; try with_reducible rfl)
          simp only [Act.put, pa, pb, pc]
          refine ltk 47 (by kernel_rfl) (fun _ _ d _ _ h => by cases d <;> exact h) (fun o ho => ?_)
          simp only [qa, qb, qc, qd] at ho; subst ho
          apply Exists.intro
          refine ⟨Or.inl ⟨by kernel_rfl, fun w' hl => Or.inl ?_⟩, ?_⟩
          · (go_simp; try with_reducible rfl)
          simp only [Act.put, pa, pb, pc]
          refine ltk 48 (by kernel_rfl) (fun _ _ d _ _ h => by cases d <;> exact h) (fun o ho => ?_)
          simp only [qa, qb, qc, qd] at ho; subst ho
          apply Exists.intro
          refine ⟨Or.inl ⟨by kernel_rfl, fun w' hl => Or.inl ?_⟩, ?_⟩
          · (go_simp; try with_reducible rfl)
          simp only [Act.put, pa, pb, pc]
          refine ltk 49 (by kernel_rfl) (fun _ _ d _ _ h => by cases d <;> exact h) (fun o ho => ?_)
          simp only [qa, qb, qc, qd] at ho; subst ho
          apply Exists.intro
          refine ⟨Or.inl ⟨by kernel_rfl, fun w' hl => Or.inl ?_⟩, ?_⟩
          · (go_simp; try with_reducible rfl)
          simp only [Act.put, pa, pb, pc]
          refine ltk 50 (by kernel_rfl) (fun _ _ d _ _ h => by cases d <;> exact h) (fun o ho => ?_)
          simp only [qa, qb, qc, qd] at ho; subst ho
          apply Exists.intro
          refine ⟨Or.inl ⟨by kernel_rfl, fun w' hl => Or.inl ?_⟩, ?_⟩
          · (go_simp; try with_reducible rfl)
          simp only [Act.put, pa, pb, pc]
          refine ltk 51 (by kernel_rfl) (fun _ _ d _ _ h => by cases d <;> exact h) (fun o ho => ?_)
          simp only [qa, qb, qc, qd] at ho; subst ho
          apply Exists.intro
          refine ⟨Or.inl ⟨by kernel_rfl, fun w' hl => Or.inl ?_⟩, ?_⟩
          · (go_simp; try with_reducible rfl)
          simp only [Act.put, pa, pb, pc]
          refine ltk 52 (by kernel_rfl) (fun _ _ d _ _ h => by cases d <;> exact h) (fun o ho => ?_)
          simp only [qa, qb, qc, qd] at ho; subst ho
          apply Exists.intro
          refine ⟨Or.inl ⟨by kernel_rfl, fun w' hl => Or.inl ?_⟩, ?_⟩
          · (go_simp; try with_reducible rfl)
          simp only [Act.put, pa, pb, pc]
          refine ltk 53 (by kernel_rfl) (fun _ _ d _ _ h => by cases d <;> exact h) (fun o ho => ?_)
          simp only [qa, qb, qc, qd] at ho; subst ho
          apply Exists.intro
          refine ⟨Or.inl ⟨by kernel_rfl, fun w' hl => Or.inl ?_⟩, ?_⟩
          · (go_simp; try with_reducible rfl)
          simp only [Act.put, pa, pb, pc]
          refine ltk 54 (by kernel_rfl) (fun _ _ d _ _ h => by cases d <;> exact h) (fun o ho => ?_)
          simp only [qa, qb, qc, qd] at ho; subst ho
          apply Exists.intro
          refine ⟨Or.inl ⟨by kernel_rfl, fun w' hl => Or.inl ?_⟩, ?_⟩
          · (go_simp; try with_reducible rfl)
          simp only [Act.put, pa, pb, pc]
          refine late_end (by kernel_rfl) (fun wn hl => ?_)
          have HR1 := Lib.hid (HR1.out.later hl); have HR5 := Lib.hid (HR5.out.later hl); have HE := Lib.hid (HE.out.later hl); have HB := Lib.hid (below_on HB.out hl); clear hl
          go_wp2_with (first
            | (guard_target = Go.wpList _ _ _ ((⟨some _, .load _ (.tmp 99), _, _, _, _⟩ : Go.Oper) :: _) _ _; refine step_get rfl 26 _ rfl b5 1 rfl Tryd.underlying26 rfl (.int .i8 (t : Int)) ?_ ?_; exact (HR5.out.cell 1).trans rfl)
            | (guard_target = Go.wpList _ _ _ ((⟨some _, .load _ (.tmp 101), _, _, _, _⟩ : Go.Oper) :: _) _ _; refine step_get rfl 26 _ rfl b5 0 rfl Tryd.underlying26 rfl (.int .i8 (f : Int)) ?_ ?_; exact (HR5.out.cell 0).trans rfl)
            | (guard_target = Go.wpList _ _ _ ((⟨some _, .load _ (.tmp 119), _, _, _, _⟩ : Go.Oper) :: _) _ _; refine step_get rfl 26 _ rfl b5 1 rfl Tryd.underlying26 rfl (.int .i8 (t : Int)) ?_ ?_; exact (HR5.out.cell 1).trans rfl)
            | (guard_target = Go.wpList _ _ _ ((⟨some _, .load _ (.tmp 121), _, _, _, _⟩ : Go.Oper) :: _) _ _; refine step_get rfl 26 _ rfl b5 0 rfl Tryd.underlying26 rfl (.int .i8 (f : Int)) ?_ ?_; exact (HR5.out.cell 0).trans rfl))
          refine late_begin 13 (by kernel_rfl) ?_
          refine ltk 0 (by kernel_rfl) (fun _ _ d _ _ h => by cases d <;> exact h) (fun o ho => ?_)
          simp only [qa, qb, qc, qd] at ho; subst ho
          apply Exists.intro
          refine ⟨Or.inl ⟨by kernel_rfl, fun w' hl => Or.inl ?_⟩, ?_⟩
          · (go_simp; try with_reducible rfl)
          simp only [Act.put, pa, pb, pc]
          refine ltk 1 (by kernel_rfl) (fun _ _ d _ _ h => by cases d <;> exact h) (fun o ho => ?_)
          simp only [qa, qb, qc, qd] at ho; subst ho
          refine ⟨.int .u8 0, Or.inl ⟨by kernel_rfl, fun w' hl => Or.inl (run_get 5 _ rfl b1 78 rfl Tryd.underlying5 rfl (.int .u8 0) (((HR1.out.later hl).cell 78 (by decide)).trans (by rw [HC.out]; rfl)))⟩, ?_⟩
          simp only [Act.put, pa, pb, pc]
          refine ltk 2 (by kernel_rfl) (fun _ _ d _ _ h => by cases d <;> exact h) (fun o ho => ?_)
          simp only [qa, qb, qc, qd] at ho; subst ho
          apply Exists.intro
          refine ⟨Or.inl ⟨by kernel_rfl, fun w' hl => Or.inl ?_⟩, ?_⟩
          · (go_simp; try with_reducible rfl)
          simp only [Act.put, pa, pb, pc]
          refine ltk 3 (by kernel_rfl) (fun _ _ d _ _ h => by cases d <;> exact h) (fun o ho => ?_)
          simp only [qa, qb, qc, qd] at ho; subst ho
          apply Exists.intro
          refine ⟨Or.inl ⟨by kernel_rfl, fun w' hl => Or.inl ?_⟩, ?_⟩
          · (go_simp; try with_reducible rfl)
          simp only [Act.put, pa, pb, pc]
          refine ltk 4 (by kernel_rfl) (fun _ _ d _ _ h => by cases d <;> exact h) (fun o ho => ?_)
          simp only [qa, qb, qc, qd] at ho; subst ho
          apply Exists.intro
          refine ⟨Or.inl ⟨by kernel_rfl, fun w' hl => Or.inl ?_⟩, ?_⟩
          · (go_simp; try with_reducible rfl)
          simp only [Act.put, pa, pb, pc]
          refine ltk 5 (by kernel_rfl) (fun _ _ d _ _ h => by cases d <;> exact h) (fun o ho => ?_)
          simp only [qa, qb, qc, qd] at ho; subst ho
          apply Exists.intro
          refine ⟨Or.inl ⟨by kernel_rfl, fun w' hl => Or.inl ?_⟩, ?_⟩
          · (go_simp; try with_reducible rfl)
          simp only [Act.put, pa, pb, pc]
          refine ltk 6 (by kernel_rfl) (fun _ _ d _ _ h => by cases d <;> exact h) (fun o ho => ?_)
          simp only [qa, qb, qc, qd] at ho; subst ho
          refine ⟨.int .i8 r, Or.inl ⟨by kernel_rfl, fun w' hl => Or.inl (run_get 26 _ rfl b1 (79 + 0 * 2 + 0) rfl Tryd.underlying26 rfl (.int .i8 r) (((HR1.out.later hl).cell (79 + 0 * 2 + 0) (by decide)).trans (by rw [HFl.out]; rfl)))⟩, ?_⟩
          simp only [Act.put, pa, pb, pc]
          refine ltk 7 (by kernel_rfl) (fun _ _ d _ _ h => by cases d <;> exact h) (fun o ho => ?_)
          simp only [qa, qb, qc, qd] at ho; subst ho
          refine ⟨.int .i64 r, Or.inl ⟨by kernel_rfl, fun w' hl => Or.inl ?_⟩, ?_⟩
          · (go_simp <;> (first | rfl | rw [ew] | rw [ew2] | omega))
          simp only [Act.put, pa, pb, pc]
          refine ltk 8 (by kernel_rfl) (fun _ _ d _ _ h => by cases d <;> exact h) (fun o ho => ?_)
          simp only [qa, qb, qc, qd] at ho; subst ho
          apply Exists.intro
          refine ⟨Or.inl ⟨by kernel_rfl, fun w' hl => Or.inl ?_⟩, ?_⟩
          · (go_simp; try with_reducible rfl)
          simp only [Act.put, pa, pb, pc]
          refine ltk 9 (by kernel_rfl) (fun _ _ d _ _ h => by cases d <;> exact h) (fun o ho => ?_)
          simp only [qa, qb, qc, qd] at ho; subst ho
          refine ⟨.int .i8 (t : Int), Or.inl ⟨by kernel_rfl, fun w' hl => Or.inl (run_get 26 _ rfl b5 1 rfl Tryd.underlying26 rfl (.int .i8 (t : Int)) (((HR5.out.later hl).cell 1).trans rfl))⟩, ?_⟩
          simp only [Act.put, pa, pb, pc]
          refine ltk 10 (by kernel_rfl) (fun _ _ d _ _ h => by cases d <;> exact h) (fun o ho => ?_)
          simp only [qa, qb, qc, qd] at ho; subst ho
          refine ⟨.int .i8 r, Or.inl ⟨by kernel_rfl, fun w' hl => Or.inl ?_⟩, ?_⟩
          · (go_simp <;> (first | rfl | rw [em] | rw [em2] | omega))
          simp only [Act.put, pa, pb, pc]
          refine ltk 11 (by kernel_rfl) (fun _ _ d _ _ h => by cases d <;> exact h) (fun o ho => ?_)
          simp only [qa, qb, qc, qd] at ho; subst ho
          refine ⟨.int .i64 r, Or.inl ⟨by kernel_rfl, fun w' hl => Or.inl ?_⟩, ?_⟩
          · (go_simp <;> (first | rfl | rw [ew] | rw [ew2] | omega))
          simp only [Act.put, pa, pb, pc]
          refine ltk 12 (by kernel_rfl) (fun _ _ d _ _ h => by cases d <;> exact h) (fun o ho => ?_)
          simp only [qa, qb, qc, qd] at ho; subst ho
          apply Exists.intro
          refine ⟨Or.inl ⟨by kernel_rfl, fun w' hl => Or.inl ?_⟩, ?_⟩
          · (go_simp; try with_reducible rfl)
          simp only [Act.put, pa, pb, pc]
          refine late_end (by kernel_rfl) (fun wn hl => ?_)
          have HR1 := Lib.hid (HR1.out.later hl); have HR5 := Lib.hid (HR5.out.later hl); have HE := Lib.hid (HE.out.later hl); have HB := Lib.hid (below_on HB.out hl); clear hl
          go_wp2_with fail
          go_roundw
          case rel => exact ⟨i + 1, by have := HLt.out; omega, by go_num, HR1.out, HE.out, HB.out⟩
          case measure => simp [intOf]; have := HLt.out; omega
        · have HC := Lib.hid (show p 78 = 0 from cm.turn)
          have HK1 := Lib.hid (show hmC (p 78) + gkC ((1 : Nat) : Int) = 2 by rw [HC.out]; rfl)
          have HK2 := Lib.hid (show hmC (p 78) + grC ((1 : Nat) : Int) = 3 by rw [HC.out]; rfl)
          have HSd := Lib.hid cm.sd
          have HKg := Lib.hid (show p (1 + f) = 6 from cm.king)
          have HRk := Lib.hid (show p (1 + t) = 4 from cm.rook)
          have HFl := Lib.hid (show p (79 + 0 * 2 + 1) = r from cm.file.trans hr)
          have hs := cm.side
          have hh := cm.home
          have ef : IntKind.i8.wrap ((f : Int).tdiv 8) = 0 := by rw [Int.tdiv_eq_ediv_of_nonneg (by omega)]; rw [hh.1]; rfl
          have et : IntKind.i8.wrap ((t : Int).tdiv 8) = 0 := by rw [Int.tdiv_eq_ediv_of_nonneg (by omega)]; rw [hh.2]; rfl
          have ef2 : IntKind.i8.wrap ((f : Int) / 8) = 0 := by rw [hh.1]; rfl
          have et2 : IntKind.i8.wrap ((t : Int) / 8) = 0 := by rw [hh.2]; rfl
          have q1 : decide (t ≤ f) = true := decide_eq_true (by simp at hs; omega)
          have q2 : decide ((t : Int) ≤ (f : Int)) = true := decide_eq_true (by simp at hs; omega)
          have q3 : decide (f ≤ t) = false := decide_eq_false (by simp at hs; omega)
          have q4 : decide ((f : Int) ≤ (t : Int)) = false := decide_eq_false (by simp at hs; omega)
          clear cm hs hh c2 n2 hr
          go_wp2_with (first
            | (guard_target = Go.wpList _ _ _ ((⟨some 21, .load _ (.tmp 20), _, _, _, _⟩ : Go.Oper) :: _) _ _; refine step_mvI rfl _ rfl g4 i _ rfl (by first | omega | (simp; omega)) ⟨(f : Int), (t : Int), 0, 0, true⟩ (HE.out.get HX.out) ?_)
            | (guard_target = Go.wpList _ _ _ ((⟨some 5, .alloc _, _, _, _, _⟩ : Go.Oper) :: _) _ _; refine blk_alloc rfl 36 rfl (mvA mv0) zeroMv ?_; intro b5 wn N R; have HG5 := Lib.hid (show w.heap.size ≤ b5 by have := HB.out.size; have := N.at_; omega); have HY1 := Lib.hid (show b1 ≠ b5 from Nat.ne_of_lt (by have h1 := HR1.out.lt; have := N.at_; omega)); have HY3 := Lib.hid (show g4 ≠ b5 from Nat.ne_of_lt (by have h1 := Mvs.lt HE.out HX.out; have := N.at_; omega)); have HR1 := Lib.hid (HR1.out.later N.below); have HE := Lib.hid (HE.out.later N.below); have HR5 := Lib.hid R; have HB := Lib.hid (below_on HB.out N.below); clear N R)
            | (guard_target = Go.wpList _ _ _ ((⟨none, .store _ (.tmp 5) _, _, _, _, _⟩ : Go.Oper) :: _) _ _; refine blk_store rfl 36 _ _ rfl b5 rfl (mvA mv0) (mvA ⟨(f : Int), (t : Int), 0, 0, true⟩) rfl HR5.out rfl (mv_one _) sizeMv ?_; intro wn U R; have HR1 := Lib.hid (HR1.out.apart U HY1.out); have HE := Lib.hid (Mvs.upd HE.out U HY3.out); have HR5 := Lib.hid R; have HB := Lib.hid (HB.out.trans (U.below HG5.out)); clear U R)
            | (guard_target = Go.wpList _ _ _ ((⟨some _, .load _ (.tmp 1), _, _, _, _⟩ : Go.Oper) :: _) _ _; refine step_load rfl _ rfl b1 rfl p HR1.out ?_)
            | (guard_target = Go.wpList _ _ _ ((⟨some _, .load _ (.tmp 5), _, _, _, _⟩ : Go.Oper) :: _) _ _; refine blk_load rfl 36 _ rfl b5 rfl (mvA ⟨(f : Int), (t : Int), 0, 0, true⟩) HR5.out _ Tryd.underlying36 rfl sizeMv ?_)
            | (go_at_call 13; refine (cs_goals p ⟨(f : Int), (t : Int), 0, 0, true⟩ 1 (by decide) _ HFm.out HSd.out (HT.out.on HB.out).gl).mono ?_; rintro e w3 ⟨rfl, hb⟩; rw [HK1.out, HK2.out]; have HR1 := Lib.hid (HR1.out.later hb); have HR5 := Lib.hid (HR5.out.later hb); have HE := Lib.hid (HE.out.later hb); have HB := Lib.hid (below_on HB.out hb); clear hb)
            | (go_at_call 14; refine (cs_side p ⟨(f : Int), (t : Int), 0, 0, true⟩ _ HFm.out).mono ?_; rintro e w3 ⟨rfl, hb⟩; rw [HSd.out]; have HR1 := Lib.hid (HR1.out.later hb); have HR5 := Lib.hid (HR5.out.later hb); have HE := Lib.hid (HE.out.later hb); have HB := Lib.hid (below_on HB.out hb); clear hb))
          try simp only [List.append]
          refine late_begin 55 (by kernel_rfl) ?_
          refine ltk 0 (by kernel_rfl) (fun _ _ d _ _ h => by cases d <;> exact h) (fun o ho => ?_)
          simp only [qa, qb, qc, qd] at ho; subst ho
          apply Exists.intro
          refine ⟨Or.inl ⟨by kernel_rfl, fun w' hl => Or.inl ?_⟩, ?_⟩
          · (go_simp; try with_reducible rfl)
          simp only [Act.put, pa, pb, pc]
          refine ltk 1 (by kernel_rfl) (fun _ _ d _ _ h => by cases d <;> exact h) (fun o ho => ?_)
          simp only [qa, qb, qc, qd] at ho; subst ho
          apply Exists.intro
          refine ⟨Or.inl ⟨by kernel_rfl, fun w' hl => Or.inl ?_⟩, ?_⟩
          · (go_simp; try with_reducible rfl)
          simp only [Act.put, pa, pb, pc]
          refine ltk 2 (by kernel_rfl) (fun _ _ d _ _ h => by cases d <;> exact h) (fun o ho => ?_)
          simp only [qa, qb, qc, qd] at ho; subst ho
          apply Exists.intro
          refine ⟨Or.inl ⟨by kernel_rfl, fun w' hl => Or.inl ?_⟩, ?_⟩
          · (go_simp; try with_reducible rfl)
          simp only [Act.put, pa, pb, pc]
          refine ltk 3 (by kernel_rfl) (fun _ _ d _ _ h => by cases d <;> exact h) (fun o ho => ?_)
          simp only [qa, qb, qc, qd] at ho; subst ho
          apply Exists.intro
          refine ⟨Or.inl ⟨by kernel_rfl, fun w' hl => Or.inl ?_⟩, ?_⟩
          · (go_simp; try with_reducible rfl)
          simp only [Act.put, pa, pb, pc]
          refine ltk 4 (by kernel_rfl) (fun _ _ d _ _ h => by cases d <;> exact h) (fun o ho => ?_)
          simp only [qa, qb, qc, qd] at ho; subst ho
          apply Exists.intro
          refine ⟨Or.inl ⟨by kernel_rfl, fun w' hl => Or.inl ?_⟩, ?_⟩
          · (go_simp; try with_reducible rfl)
          simp only [Act.put, pa, pb, pc]
          refine ltk 5 (by kernel_rfl) (fun _ _ d _ _ h => by cases d <;> exact h) (fun o ho => ?_)
          simp only [qa, qb, qc, qd] at ho; subst ho
          apply Exists.intro
          refine ⟨Or.inl ⟨by kernel_rfl, fun w' hl => Or.inl ?_⟩, ?_⟩
          · (go_simp; try with_reducible rfl)
          simp only [Act.put, pa, pb, pc]
          refine ltk 6 (by kernel_rfl) (fun _ _ d _ _ h => by cases d <;> exact h) (fun o ho => ?_)
          simp only [qa, qb, qc, qd] at ho; subst ho
          apply Exists.intro
          refine ⟨Or.inl ⟨by kernel_rfl, fun w' hl => Or.inl ?_⟩, ?_⟩
          · (go_simp; try with_reducible rfl)
          simp only [Act.put, pa, pb, pc]
          refine ltk 7 (by kernel_rfl) (fun _ _ d _ _ h => by cases d <;> exact h) (fun o ho => ?_)
          simp only [qa, qb, qc, qd] at ho; subst ho
          apply Exists.intro
          refine ⟨Or.inl ⟨by kernel_rfl, fun w' hl => Or.inl ?_⟩, ?_⟩
          · (go_simp; try with_reducible rfl)
          simp only [Act.put, pa, pb, pc]
          refine ltk 8 (by kernel_rfl) (fun _ _ d _ _ h => by cases d <;> exact h) (fun o ho => ?_)
          simp only [qa, qb, qc, qd] at ho; subst ho
          refine ⟨.int .i8 (f : Int), Or.inl ⟨by kernel_rfl, fun w' hl => Or.inl (run_get 26 _ rfl b5 0 rfl Tryd.underlying26 rfl (.int .i8 (f : Int)) (((HR5.out.later hl).cell 0).trans rfl))⟩, ?_⟩
          simp only [Act.put, pa, pb, pc]
          refine ltk 9 (by kernel_rfl) (fun _ _ d _ _ h => by cases d <;> exact h) (fun o ho => ?_)
          simp only [qa, qb, qc, qd] at ho; subst ho
          apply Exists.intro
          refine ⟨Or.inl ⟨by kernel_rfl, fun w' hl => Or.inl ?_⟩, ?_⟩
          · (go_simp; try with_reducible rfl)
          simp only [Act.put, pa, pb, pc]
          refine ltk 10 (by kernel_rfl) (fun _ _ d _ _ h => by cases d <;> exact h) (fun o ho => ?_)
          simp only [qa, qb, qc, qd] at ho; subst ho
          refine ⟨.pointer (some ⟨b1, 1 + f, none⟩), Or.inl ⟨by kernel_rfl, fun w' hl => Or.inl ?_⟩, ?_⟩
          · (go_simp <;> (intro hbad; omega))
          simp only [Act.put, pa, pb, pc]
          refine ltk 11 (by kernel_rfl) (fun _ _ d _ _ h => by cases d <;> exact h) (fun o ho => ?_)
          simp only [qa, qb, qc, qd] at ho; subst ho
          refine ⟨.int .u8 6, Or.inl ⟨by kernel_rfl, fun w' hl => Or.inl (run_get 5 _ rfl b1 (1 + f) rfl Tryd.underlying5 rfl (.int .u8 6) (((HR1.out.later hl).cell (1 + f) (by omega)).trans (by rw [kAt_board (Nat.zero_le _) hf64, HKg.out])))⟩, ?_⟩
          simp only [Act.put, pa, pb, pc]
          refine ltk 12 (by kernel_rfl) (fun _ _ d _ _ h => by cases d <;> exact h) (fun o ho => ?_)
          simp only [qa, qb, qc, qd] at ho; subst ho
          apply Exists.intro
          refine ⟨Or.inl ⟨by kernel_rfl, fun w' hl => Or.inl ?_⟩, ?_⟩
          · (go_simp; try with_reducible rfl)
          simp only [Act.put, pa, pb, pc]
          refine ltk 13 (by kernel_rfl) (fun _ _ d _ _ h => by cases d <;> exact h) (fun o ho => ?_)
          simp only [qa, qb, qc, qd] at ho; subst ho
          refine ⟨.int .u8 0, Or.inl ⟨by kernel_rfl, fun w' hl => Or.inl (run_get 5 _ rfl b1 78 rfl Tryd.underlying5 rfl (.int .u8 0) (((HR1.out.later hl).cell 78 (by decide)).trans (by rw [HC.out]; rfl)))⟩, ?_⟩
          simp only [Act.put, pa, pb, pc]
          refine ltk 14 (by kernel_rfl) (fun _ _ d _ _ h => by cases d <;> exact h) (fun o ho => ?_)
          simp only [qa, qb, qc, qd] at ho; subst ho
          refine ⟨.int .u8 0, Or.inl ⟨by kernel_rfl, fun w' hl => Or.inl ?_⟩, ?_⟩
          · (go_simp <;> (first | rfl | rw [ew] | rw [ew2] | omega))
          simp only [Act.put, pa, pb, pc]
          refine ltk 15 (by kernel_rfl) (fun _ _ d _ _ h => by cases d <;> exact h) (fun o ho => ?_)
          simp only [qa, qb, qc, qd] at ho; subst ho
          refine ⟨.int .u8 6, Or.inl ⟨by kernel_rfl, fun w' hl => Or.inl ?_⟩, ?_⟩
          · (go_simp <;> (first | rfl | rw [ew] | rw [ew2] | omega))
          simp only [Act.put, pa, pb, pc]
          refine ltk 16 (by kernel_rfl) (fun _ _ d _ _ h => by cases d <;> exact h) (fun o ho => ?_)
          simp only [qa, qb, qc, qd] at ho; subst ho
          apply Exists.intro
          refine ⟨Or.inl ⟨by kernel_rfl, fun w' hl => Or.inl ?_⟩, ?_⟩
          · (go_simp; try with_reducible rfl)
          simp only [Act.put, pa, pb, pc]
          refine ltk 17 (by kernel_rfl) (fun _ _ d _ _ h => by cases d <;> exact h) (fun o ho => ?_)
          simp only [qa, qb, qc, qd] at ho; subst ho
          apply Exists.intro
          refine ⟨Or.inl ⟨by kernel_rfl, fun w' hl => Or.inl ?_⟩, ?_⟩
          · (go_simp; try with_reducible rfl)
          simp only [Act.put, pa, pb, pc]
          refine ltk 18 (by kernel_rfl) (fun _ _ d _ _ h => by cases d <;> exact h) (fun o ho => ?_)
          simp only [qa, qb, qc, qd] at ho; subst ho
          apply Exists.intro
          refine ⟨Or.inl ⟨by kernel_rfl, fun w' hl => Or.inl ?_⟩, ?_⟩
          · (go_simp; try with_reducible rfl)
          simp only [Act.put, pa, pb, pc]
          refine ltk 19 (by kernel_rfl) (fun _ _ d _ _ h => by cases d <;> exact h) (fun o ho => ?_)
          simp only [qa, qb, qc, qd] at ho; subst ho
          apply Exists.intro
          refine ⟨Or.inl ⟨by kernel_rfl, fun w' hl => Or.inl ?_⟩, ?_⟩
          · (go_simp; try with_reducible rfl)
          simp only [Act.put, pa, pb, pc]
          refine ltk 20 (by kernel_rfl) (fun _ _ d _ _ h => by cases d <;> exact h) (fun o ho => ?_)
          simp only [qa, qb, qc, qd] at ho; subst ho
          refine ⟨.int .i8 (t : Int), Or.inl ⟨by kernel_rfl, fun w' hl => Or.inl (run_get 26 _ rfl b5 1 rfl Tryd.underlying26 rfl (.int .i8 (t : Int)) (((HR5.out.later hl).cell 1).trans rfl))⟩, ?_⟩
          simp only [Act.put, pa, pb, pc]
          refine ltk 21 (by kernel_rfl) (fun _ _ d _ _ h => by cases d <;> exact h) (fun o ho => ?_)
          simp only [qa, qb, qc, qd] at ho; subst ho
          apply Exists.intro
          refine ⟨Or.inl ⟨by kernel_rfl, fun w' hl => Or.inl ?_⟩, ?_⟩
          · (go_simp; try with_reducible rfl)
          simp only [Act.put, pa, pb, pc]
          refine ltk 22 (by kernel_rfl) (fun _ _ d _ _ h => by cases d <;> exact h) (fun o ho => ?_)
          simp only [qa, qb, qc, qd] at ho; subst ho
          refine ⟨.pointer (some ⟨b1, 1 + t, none⟩), Or.inl ⟨by kernel_rfl, fun w' hl => Or.inl ?_⟩, ?_⟩
          · (go_simp <;> (intro hbad; omega))
          simp only [Act.put, pa, pb, pc]
          refine ltk 23 (by kernel_rfl) (fun _ _ d _ _ h => by cases d <;> exact h) (fun o ho => ?_)
          simp only [qa, qb, qc, qd] at ho; subst ho
          refine ⟨.int .u8 4, Or.inl ⟨by kernel_rfl, fun w' hl => Or.inl (run_get 5 _ rfl b1 (1 + t) rfl Tryd.underlying5 rfl (.int .u8 4) (((HR1.out.later hl).cell (1 + t) (by omega)).trans (by rw [kAt_board (Nat.zero_le _) ht64, HRk.out])))⟩, ?_⟩
          simp only [Act.put, pa, pb, pc]
          refine ltk 24 (by kernel_rfl) (fun _ _ d _ _ h => by cases d <;> exact h) (fun o ho => ?_)
          simp only [qa, qb, qc, qd] at ho; subst ho
          apply Exists.intro
          refine ⟨Or.inl ⟨by kernel_rfl, fun w' hl => Or.inl ?_⟩, ?_⟩
          · (go_simp; try with_reducible rfl)
          simp only [Act.put, pa, pb, pc]
          refine ltk 25 (by kernel_rfl) (fun _ _ d _ _ h => by cases d <;> exact h) (fun o ho => ?_)
          simp only [qa, qb, qc, qd] at ho; subst ho
          refine ⟨.int .u8 0, Or.inl ⟨by kernel_rfl, fun w' hl => Or.inl (run_get 5 _ rfl b1 78 rfl Tryd.underlying5 rfl (.int .u8 0) (((HR1.out.later hl).cell 78 (by decide)).trans (by rw [HC.out]; rfl)))⟩, ?_⟩
          simp only [Act.put, pa, pb, pc]
          refine ltk 26 (by kernel_rfl) (fun _ _ d _ _ h => by cases d <;> exact h) (fun o ho => ?_)
          simp only [qa, qb, qc, qd] at ho; subst ho
          refine ⟨.int .u8 0, Or.inl ⟨by kernel_rfl, fun w' hl => Or.inl ?_⟩, ?_⟩
          · (go_simp <;> (first | rfl | rw [ew] | rw [ew2] | omega))
          simp only [Act.put, pa, pb, pc]
          refine ltk 27 (by kernel_rfl) (fun _ _ d _ _ h => by cases d <;> exact h) (fun o ho => ?_)
          simp only [qa, qb, qc, qd] at ho; subst ho
          refine ⟨.int .u8 4, Or.inl ⟨by kernel_rfl, fun w' hl => Or.inl ?_⟩, ?_⟩
          · (go_simp <;> (first | rfl | rw [ew] | rw [ew2] | omega))
          simp only [Act.put, pa, pb, pc]
          refine ltk 28 (by kernel_rfl) (fun _ _ d _ _ h => by cases d <;> exact h) (fun o ho => ?_)
          simp only [qa, qb, qc, qd] at ho; subst ho
          apply Exists.intro
          refine ⟨Or.inl ⟨by kernel_rfl, fun w' hl => Or.inl ?_⟩, ?_⟩
          · (go_simp; try with_reducible rfl)
          simp only [Act.put, pa, pb, pc]
          refine ltk 29 (by kernel_rfl) (fun _ _ d _ _ h => by cases d <;> exact h) (fun o ho => ?_)
          simp only [qa, qb, qc, qd] at ho; subst ho
          apply Exists.intro
          refine ⟨Or.inl ⟨by kernel_rfl, fun w' hl => Or.inl ?_⟩, ?_⟩
          · (go_simp; try with_reducible rfl)
          simp only [Act.put, pa, pb, pc]
          refine ltk 30 (by kernel_rfl) (fun _ _ d _ _ h => by cases d <;> exact h) (fun o ho => ?_)
          simp only [qa, qb, qc, qd] at ho; subst ho
          apply Exists.intro
          refine ⟨Or.inl ⟨by kernel_rfl, fun w' hl => Or.inl ?_⟩, ?_⟩
          · (go_simp; try with_reducible rfl)
          simp only [Act.put, pa, pb, pc]
          refine ltk 31 (by kernel_rfl) (fun _ _ d _ _ h => by cases d <;> exact h) (fun o ho => ?_)
          simp only [qa, qb, qc, qd] at ho; subst ho
          apply Exists.intro
          refine ⟨Or.inl ⟨by kernel_rfl, fun w' hl => Or.inl ?_⟩, ?_⟩
          · (go_simp; try with_reducible rfl)
          simp only [Act.put, pa, pb, pc]
          refine ltk 32 (by kernel_rfl) (fun _ _ d _ _ h => by cases d <;> exact h) (fun o ho => ?_)
          simp only [qa, qb, qc, qd] at ho; subst ho
          refine ⟨.int .i8 (f : Int), Or.inl ⟨by kernel_rfl, fun w' hl => Or.inl (run_get 26 _ rfl b5 0 rfl Tryd.underlying26 rfl (.int .i8 (f : Int)) (((HR5.out.later hl).cell 0).trans rfl))⟩, ?_⟩
          simp only [Act.put, pa, pb, pc]
          refine ltk 33 (by kernel_rfl) (fun _ _ d _ _ h => by cases d <;> exact h) (fun o ho => ?_)
          simp only [qa, qb, qc, qd] at ho; subst ho
          refine ⟨.int .i8 0, Or.inl ⟨by kernel_rfl, fun w' hl => Or.inl ?_⟩, ?_⟩
          · (go_simp <;> (first | rfl | rw [ef] | rw [ef2] | omega))
          simp only [Act.put, pa, pb, pc]
          refine ltk 34 (by kernel_rfl) (fun _ _ d _ _ h => by cases d <;> exact h) (fun o ho => ?_)
          simp only [qa, qb, qc, qd] at ho; subst ho
          apply Exists.intro
          refine ⟨Or.inl ⟨by kernel_rfl, fun w' hl => Or.inl ?_⟩, ?_⟩
          · (go_simp; try with_reducible rfl)
          simp only [Act.put, pa, pb, pc]
          refine ltk 35 (by kernel_rfl) (fun _ _ d _ _ h => by cases d <;> exact h) (fun o ho => ?_)
          simp only [qa, qb, qc, qd] at ho; subst ho
          refine ⟨.int .i8 (t : Int), Or.inl ⟨by kernel_rfl, fun w' hl => Or.inl (run_get 26 _ rfl b5 1 rfl Tryd.underlying26 rfl (.int .i8 (t : Int)) (((HR5.out.later hl).cell 1).trans rfl))⟩, ?_⟩
          simp only [Act.put, pa, pb, pc]
          refine ltk 36 (by kernel_rfl) (fun _ _ d _ _ h => by cases d <;> exact h) (fun o ho => ?_)
          simp only [qa, qb, qc, qd] at ho; subst ho
          refine ⟨.int .i8 0, Or.inl ⟨by kernel_rfl, fun w' hl => Or.inl ?_⟩, ?_⟩
          · (go_simp <;> (first | rfl | rw [et] | rw [et2] | omega))
          simp only [Act.put, pa, pb, pc]
          refine ltk 37 (by kernel_rfl) (fun _ _ d _ _ h => by cases d <;> exact h) (fun o ho => ?_)
          simp only [qa, qb, qc, qd] at ho; subst ho
          apply Exists.intro
          refine ⟨Or.inl ⟨by kernel_rfl, fun w' hl => Or.inl ?_⟩, ?_⟩
          · (go_simp; try with_reducible rfl)
          simp only [Act.put, pa, pb, pc]
          refine ltk 38 (by kernel_rfl) (fun _ _ d _ _ h => by cases d <;> exact h) (fun o ho => ?_)
          simp only [qa, qb, qc, qd] at ho; subst ho
          apply Exists.intro
          refine ⟨Or.inl ⟨by kernel_rfl, fun w' hl => Or.inl ?_⟩, ?_⟩
          · (go_simp; try with_reducible rfl)
          simp only [Act.put, pa, pb, pc]
          refine ltk 39 (by kernel_rfl) (fun _ _ d _ _ h => by cases d <;> exact h) (fun o ho => ?_)
          simp only [qa, qb, qc, qd] at ho; subst ho
          apply Exists.intro
          refine ⟨Or.inl ⟨by kernel_rfl, fun w' hl => Or.inl ?_⟩, ?_⟩
          · (go_simp; try with_reducible rfl)
          simp only [Act.put, pa, pb, pc]
          refine ltk 40 (by kernel_rfl) (fun _ _ d _ _ h => by cases d <;> exact h) (fun o ho => ?_)
          simp only [qa, qb, qc, qd] at ho; subst ho
          apply Exists.intro
          refine ⟨Or.inl ⟨by kernel_rfl, fun w' hl => Or.inl ?_⟩, ?_⟩
          · (go_simp; try with_reducible rfl)
          simp only [Act.put, pa, pb, pc]
          refine ltk 41 (by kernel_rfl) (fun _ _ d _ _ h => by cases d <;> exact h) (fun o ho => ?_)
          simp only [qa, qb, qc, qd] at ho; subst ho
          apply Exists.intro
          refine ⟨Or.inl ⟨by kernel_rfl, fun w' hl => Or.inl ?_⟩, ?_⟩
          · (go_simp; try with_reducible rfl)
          simp only [Act.put, pa, pb, pc]
          refine ltk 42 (by kernel_rfl) (fun _ _ d _ _ h => by cases d <;> exact h) (fun o ho => ?_)
          simp only [qa, qb, qc, qd] at ho; subst ho
          apply Exists.intro
          refine ⟨Or.inl ⟨by kernel_rfl, fun w' hl => Or.inl ?_⟩, ?_⟩
          · (go_simp; try with_reducible rfl)
          simp only [Act.put, pa, pb, pc]
          refine ltk 43 (by kernel_rfl) (fun _ _ d _ _ h => by cases d <;> exact h) (fun o ho => ?_)
          simp only [qa, qb, qc, qd] at ho; subst ho
          refine ⟨.int .i8 (f : Int), Or.inl ⟨by kernel_rfl, fun w' hl => Or.inl (run_get 26 _ rfl b5 0 rfl Tryd.underlying26 rfl (.int .i8 (f : Int)) (((HR5.out.later hl).cell 0).trans rfl))⟩, ?_⟩
          simp only [Act.put, pa, pb, pc]
          refine ltk 44 (by kernel_rfl) (fun _ _ d _ _ h => by cases d <;> exact h) (fun o ho => ?_)
          simp only [qa, qb, qc, qd] at ho; subst ho
          refine ⟨.int .i8 0, Or.inl ⟨by kernel_rfl, fun w' hl => Or.inl ?_⟩, ?_⟩
          · (go_simp <;> (first | rfl | rw [ef] | rw [ef2] | omega))
          simp only [Act.put, pa, pb, pc]
          refine ltk 45 (by kernel_rfl) (fun _ _ d _ _ h => by cases d <;> exact h) (fun o ho => ?_)
          simp only [qa, qb, qc, qd] at ho; subst ho
          apply Exists.intro
          refine ⟨Or.inl ⟨by kernel_rfl, fun w' hl => Or.inl ?_⟩, ?_⟩
          · (go_simp; try with_reducible rfl)
          simp only [Act.put, pa, pb, pc]
          refine ltk 46 (by kernel_rfl) (fun _ _ d _ _ h => by cases d <;> exact h) (fun o ho => ?_)
          simp only [qa, qb, qc, qd] at ho; subst ho
          apply Exists.intro
          refine ⟨Or.inl ⟨by kernel_rfl, fun w' hl => Or.inl ?_⟩, ?_⟩
          · (go_simp; try with_reducible rfl)
          simp only [Act.put, pa, pb, pc]
          refine ltk 47 (by kernel_rfl) (fun _ _ d _ _ h => by cases d <;> exact h) (fun o ho => ?_)
          simp only [qa, qb, qc, qd] at ho; subst ho
          apply Exists.intro
          refine ⟨Or.inl ⟨by kernel_rfl, fun w' hl => Or.inl ?_⟩, ?_⟩
          · (go_simp; try with_reducible rfl)
          simp only [Act.put, pa, pb, pc]
          refine ltk 48 (by kernel_rfl) (fun _ _ d _ _ h => by cases d <;> exact h) (fun o ho => ?_)
          simp only [qa, qb, qc, qd] at ho; subst ho
          apply Exists.intro
          refine ⟨Or.inl ⟨by kernel_rfl, fun w' hl => Or.inl ?_⟩, ?_⟩
          · (go_simp; try with_reducible rfl)
          simp only [Act.put, pa, pb, pc]
          refine ltk 49 (by kernel_rfl) (fun _ _ d _ _ h => by cases d <;> exact h) (fun o ho => ?_)
          simp only [qa, qb, qc, qd] at ho; subst ho
          apply Exists.intro
          refine ⟨Or.inl ⟨by kernel_rfl, fun w' hl => Or.inl ?_⟩, ?_⟩
          · (go_simp; try with_reducible rfl)
          simp only [Act.put, pa, pb, pc]
          refine ltk 50 (by kernel_rfl) (fun _ _ d _ _ h => by cases d <;> exact h) (fun o ho => ?_)
          simp only [qa, qb, qc, qd] at ho; subst ho
          apply Exists.intro
          refine ⟨Or.inl ⟨by kernel_rfl, fun w' hl => Or.inl ?_⟩, ?_⟩
          · (go_simp; try with_reducible rfl)
          simp only [Act.put, pa, pb, pc]
          refine ltk 51 (by kernel_rfl) (fun _ _ d _ _ h => by cases d <;> exact h) (fun o ho => ?_)
          simp only [qa, qb, qc, qd] at ho; subst ho
          apply Exists.intro
          refine ⟨Or.inl ⟨by kernel_rfl, fun w' hl => Or.inl ?_⟩, ?_⟩
          · (go_simp; try with_reducible rfl)
          simp only [Act.put, pa, pb, pc]
          refine ltk 52 (by kernel_rfl) (fun _ _ d _ _ h => by cases d <;> exact h) (fun o ho => ?_)
          simp only [qa, qb, qc, qd] at ho; subst ho
          apply Exists.intro
          refine ⟨Or.inl ⟨by kernel_rfl, fun w' hl => Or.inl ?_⟩, ?_⟩
          · (go_simp; try with_reducible rfl)
          simp only [Act.put, pa, pb, pc]
          refine ltk 53 (by kernel_rfl) (fun _ _ d _ _ h => by cases d <;> exact h) (fun o ho => ?_)
          simp only [qa, qb, qc, qd] at ho; subst ho
          apply Exists.intro
          refine ⟨Or.inl ⟨by kernel_rfl, fun w' hl => Or.inl ?_⟩, ?_⟩
          · (go_simp; try with_reducible rfl)
          simp only [Act.put, pa, pb, pc]
          refine ltk 54 (by kernel_rfl) (fun _ _ d _ _ h => by cases d <;> exact h) (fun o ho => ?_)
          simp only [qa, qb, qc, qd] at ho; subst ho
          apply Exists.intro
          refine ⟨Or.inl ⟨by kernel_rfl, fun w' hl => Or.inl ?_⟩, ?_⟩
          · (go_simp; try with_reducible rfl)
          simp only [Act.put, pa, pb, pc]
          refine late_end (by kernel_rfl) (fun wn hl => ?_)
          have HR1 := Lib.hid (HR1.out.later hl); have HR5 := Lib.hid (HR5.out.later hl); have HE := Lib.hid (HE.out.later hl); have HB := Lib.hid (below_on HB.out hl); clear hl
          go_wp2_with (first
            | (guard_target = Go.wpList _ _ _ ((⟨some _, .load _ (.tmp 99), _, _, _, _⟩ : Go.Oper) :: _) _ _; refine step_get rfl 26 _ rfl b5 1 rfl Tryd.underlying26 rfl (.int .i8 (t : Int)) ?_ ?_; exact (HR5.out.cell 1).trans rfl)
            | (guard_target = Go.wpList _ _ _ ((⟨some _, .load _ (.tmp 101), _, _, _, _⟩ : Go.Oper) :: _) _ _; refine step_get rfl 26 _ rfl b5 0 rfl Tryd.underlying26 rfl (.int .i8 (f : Int)) ?_ ?_; exact (HR5.out.cell 0).trans rfl)
            | (guard_target = Go.wpList _ _ _ ((⟨some _, .load _ (.tmp 119), _, _, _, _⟩ : Go.Oper) :: _) _ _; refine step_get rfl 26 _ rfl b5 1 rfl Tryd.underlying26 rfl (.int .i8 (t : Int)) ?_ ?_; exact (HR5.out.cell 1).trans rfl)
            | (guard_target = Go.wpList _ _ _ ((⟨some _, .load _ (.tmp 121), _, _, _, _⟩ : Go.Oper) :: _) _ _; refine step_get rfl 26 _ rfl b5 0 rfl Tryd.underlying26 rfl (.int .i8 (f : Int)) ?_ ?_; exact (HR5.out.cell 0).trans rfl))
          refine late_begin 13 (by kernel_rfl) ?_
          refine ltk 0 (by kernel_rfl) (fun _ _ d _ _ h => by cases d <;> exact h) (fun o ho => ?_)
          simp only [qa, qb, qc, qd] at ho; subst ho
          apply Exists.intro
          refine ⟨Or.inl ⟨by kernel_rfl, fun w' hl => Or.inl ?_⟩, ?_⟩
          · (go_simp; try with_reducible rfl)
          simp only [Act.put, pa, pb, pc]
          refine ltk 1 (by kernel_rfl) (fun _ _ d _ _ h => by cases d <;> exact h) (fun o ho => ?_)
          simp only [qa, qb, qc, qd] at ho; subst ho
          refine ⟨.int .u8 0, Or.inl ⟨by kernel_rfl, fun w' hl => Or.inl (run_get 5 _ rfl b1 78 rfl Tryd.underlying5 rfl (.int .u8 0) (((HR1.out.later hl).cell 78 (by decide)).trans (by rw [HC.out]; rfl)))⟩, ?_⟩
          simp only [Act.put, pa, pb, pc]
          refine ltk 2 (by kernel_rfl) (fun _ _ d _ _ h => by cases d <;> exact h) (fun o ho => ?_)
          simp only [qa, qb, qc, qd] at ho; subst ho
          apply Exists.intro
          refine ⟨Or.inl ⟨by kernel_rfl, fun w' hl => Or.inl ?_⟩, ?_⟩
          · (go_simp; try with_reducible rfl)
          simp only [Act.put, pa, pb, pc]
          refine ltk 3 (by kernel_rfl) (fun _ _ d _ _ h => by cases d <;> exact h) (fun o ho => ?_)
          simp only [qa, qb, qc, qd] at ho; subst ho
          apply Exists.intro
          refine ⟨Or.inl ⟨by kernel_rfl, fun w' hl => Or.inl ?_⟩, ?_⟩
          · (go_simp; try with_reducible rfl)
          simp only [Act.put, pa, pb, pc]
          refine ltk 4 (by kernel_rfl) (fun _ _ d _ _ h => by cases d <;> exact h) (fun o ho => ?_)
          simp only [qa, qb, qc, qd] at ho; subst ho
          apply Exists.intro
          refine ⟨Or.inl ⟨by kernel_rfl, fun w' hl => Or.inl ?_⟩, ?_⟩
          · (go_simp; try with_reducible rfl)
          simp only [Act.put, pa, pb, pc]
          refine ltk 5 (by kernel_rfl) (fun _ _ d _ _ h => by cases d <;> exact h) (fun o ho => ?_)
          simp only [qa, qb, qc, qd] at ho; subst ho
          apply Exists.intro
          refine ⟨Or.inl ⟨by kernel_rfl, fun w' hl => Or.inl ?_⟩, ?_⟩
          · (go_simp; try with_reducible rfl)
          simp only [Act.put, pa, pb, pc]
          refine ltk 6 (by kernel_rfl) (fun _ _ d _ _ h => by cases d <;> exact h) (fun o ho => ?_)
          simp only [qa, qb, qc, qd] at ho; subst ho
          refine ⟨.int .i8 r, Or.inl ⟨by kernel_rfl, fun w' hl => Or.inl (run_get 26 _ rfl b1 (79 + 0 * 2 + 1) rfl Tryd.underlying26 rfl (.int .i8 r) (((HR1.out.later hl).cell (79 + 0 * 2 + 1) (by decide)).trans (by rw [HFl.out]; rfl)))⟩, ?_⟩
          simp only [Act.put, pa, pb, pc]
          refine ltk 7 (by kernel_rfl) (fun _ _ d _ _ h => by cases d <;> exact h) (fun o ho => ?_)
          simp only [qa, qb, qc, qd] at ho; subst ho
          refine ⟨.int .i64 r, Or.inl ⟨by kernel_rfl, fun w' hl => Or.inl ?_⟩, ?_⟩
          · (go_simp <;> (first | rfl | rw [ew] | rw [ew2] | omega))
          simp only [Act.put, pa, pb, pc]
          refine ltk 8 (by kernel_rfl) (fun _ _ d _ _ h => by cases d <;> exact h) (fun o ho => ?_)
          simp only [qa, qb, qc, qd] at ho; subst ho
          apply Exists.intro
          refine ⟨Or.inl ⟨by kernel_rfl, fun w' hl => Or.inl ?_⟩, ?_⟩
          · (go_simp; try with_reducible rfl)
          simp only [Act.put, pa, pb, pc]
          refine ltk 9 (by kernel_rfl) (fun _ _ d _ _ h => by cases d <;> exact h) (fun o ho => ?_)
          simp only [qa, qb, qc, qd] at ho; subst ho
          refine ⟨.int .i8 (t : Int), Or.inl ⟨by kernel_rfl, fun w' hl => Or.inl (run_get 26 _ rfl b5 1 rfl Tryd.underlying26 rfl (.int .i8 (t : Int)) (((HR5.out.later hl).cell 1).trans rfl))⟩, ?_⟩
          simp only [Act.put, pa, pb, pc]
          refine ltk 10 (by kernel_rfl) (fun _ _ d _ _ h => by cases d <;> exact h) (fun o ho => ?_)
          simp only [qa, qb, qc, qd] at ho; subst ho
          refine ⟨.int .i8 r, Or.inl ⟨by kernel_rfl, fun w' hl => Or.inl ?_⟩, ?_⟩
          · (go_simp <;> (first | rfl | rw [em] | rw [em2] | omega))
          simp only [Act.put, pa, pb, pc]
          refine ltk 11 (by kernel_rfl) (fun _ _ d _ _ h => by cases d <;> exact h) (fun o ho => ?_)
          simp only [qa, qb, qc, qd] at ho; subst ho
          refine ⟨.int .i64 r, Or.inl ⟨by kernel_rfl, fun w' hl => Or.inl ?_⟩, ?_⟩
          · (go_simp <;> (first | rfl | rw [ew] | rw [ew2] | omega))
          simp only [Act.put, pa, pb, pc]
          refine ltk 12 (by kernel_rfl) (fun _ _ d _ _ h => by cases d <;> exact h) (fun o ho => ?_)
          simp only [qa, qb, qc, qd] at ho; subst ho
          apply Exists.intro
          refine ⟨Or.inl ⟨by kernel_rfl, fun w' hl => Or.inl ?_⟩, ?_⟩
          · (go_simp; try with_reducible rfl)
          simp only [Act.put, pa, pb, pc]
          refine late_end (by kernel_rfl) (fun wn hl => ?_)
          have HR1 := Lib.hid (HR1.out.later hl); have HR5 := Lib.hid (HR5.out.later hl); have HE := Lib.hid (HE.out.later hl); have HB := Lib.hid (below_on HB.out hl); clear hl
          go_wp2_with fail
          go_roundw
          case rel => exact ⟨i + 1, by have := HLt.out; omega, by go_num, HR1.out, HE.out, HB.out⟩
          case measure => simp [intOf]; have := HLt.out; omega
      · rcases (by omega : n = 0 ∨ n = 1) with rfl | rfl
        · have HC := Lib.hid (show p 78 = 1 from cm.turn)
          have HK1 := Lib.hid (show hmC (p 78) + gkC ((0 : Nat) : Int) = 62 by rw [HC.out]; rfl)
          have HK2 := Lib.hid (show hmC (p 78) + grC ((0 : Nat) : Int) = 61 by rw [HC.out]; rfl)
          have HSd := Lib.hid cm.sd
          have HKg := Lib.hid (show p (1 + f) = 14 from cm.king)
          have HRk := Lib.hid (show p (1 + t) = 12 from cm.rook)
          have HFl := Lib.hid (show p (79 + 1 * 2 + 0) = r from cm.file.trans hr)
          have hs := cm.side
          have hh := cm.home
          have ef : IntKind.i8.wrap ((f : Int).tdiv 8) = 7 := by rw [Int.tdiv_eq_ediv_of_nonneg (by omega)]; rw [hh.1]; rfl
          have et : IntKind.i8.wrap ((t : Int).tdiv 8) = 7 := by rw [Int.tdiv_eq_ediv_of_nonneg (by omega)]; rw [hh.2]; rfl
          have ef2 : IntKind.i8.wrap ((f : Int) / 8) = 7 := by rw [hh.1]; rfl
          have et2 : IntKind.i8.wrap ((t : Int) / 8) = 7 := by rw [hh.2]; rfl
          have q1 : decide (t ≤ f) = false := decide_eq_false (by simp at hs; omega)
          have q2 : decide ((t : Int) ≤ (f : Int)) = false := decide_eq_false (by simp at hs; omega)
          have q3 : decide (f ≤ t) = true := decide_eq_true (by simp at hs; omega)
          have q4 : decide ((f : Int) ≤ (t : Int)) = true := decide_eq_true (by simp at hs; omega)
          clear cm hs hh c2 n2 hr
          go_wp2_with (first
            | (guard_target = Go.wpList _ _ _ ((⟨some 21, .load _ (.tmp 20), _, _, _, _⟩ : Go.Oper) :: _) _ _; refine step_mvI rfl _ rfl g4 i _ rfl (by first | omega | (simp; omega)) ⟨(f : Int), (t : Int), 0, 0, true⟩ (HE.out.get HX.out) ?_)
            | (guard_target = Go.wpList _ _ _ ((⟨some 5, .alloc _, _, _, _, _⟩ : Go.Oper) :: _) _ _; refine blk_alloc rfl 36 rfl (mvA mv0) zeroMv ?_; intro b5 wn N R; have HG5 := Lib.hid (show w.heap.size ≤ b5 by have := HB.out.size; have := N.at_; omega); have HY1 := Lib.hid (show b1 ≠ b5 from Nat.ne_of_lt (by have h1 := HR1.out.lt; have := N.at_; omega)); have HY3 := Lib.hid (show g4 ≠ b5 from Nat.ne_of_lt (by have h1 := Mvs.lt HE.out HX.out; have := N.at_; omega)); have HR1 := Lib.hid (HR1.out.later N.below); have HE := Lib.hid (HE.out.later N.below); have HR5 := Lib.hid R; have HB := Lib.hid (below_on HB.out N.below); clear N R)
            | (guard_target = Go.wpList _ _ _ ((⟨none, .store _ (.tmp 5) _, _, _, _, _⟩ : Go.Oper) :: _) _ _; refine blk_store rfl 36 _ _ rfl b5 rfl (mvA mv0) (mvA ⟨(f : Int), (t : Int), 0, 0, true⟩) rfl HR5.out rfl (mv_one _) sizeMv ?_; intro wn U R; have HR1 := Lib.hid (HR1.out.apart U HY1.out); have HE := Lib.hid (Mvs.upd HE.out U HY3.out); have HR5 := Lib.hid R; have HB := Lib.hid (HB.out.trans (U.below HG5.out)); clear U R)
            | (guard_target = Go.wpList _ _ _ ((⟨some _, .load _ (.tmp 1), _, _, _, _⟩ : Go.Oper) :: _) _ _; refine step_load rfl _ rfl b1 rfl p HR1.out ?_)
            | (guard_target = Go.wpList _ _ _ ((⟨some _, .load _ (.tmp 5), _, _, _, _⟩ : Go.Oper) :: _) _ _; refine blk_load rfl 36 _ rfl b5 rfl (mvA ⟨(f : Int), (t : Int), 0, 0, true⟩) HR5.out _ Tryd.underlying36 rfl sizeMv ?_)
            | (go_at_call 13; refine (cs_goals p ⟨(f : Int), (t : Int), 0, 0, true⟩ 0 (by decide) _ HFm.out HSd.out (HT.out.on HB.out).gl).mono ?_; rintro e w3 ⟨rfl, hb⟩; rw [HK1.out, HK2.out]; have HR1 := Lib.hid (HR1.out.later hb); have HR5 := Lib.hid (HR5.out.later hb); have HE := Lib.hid (HE.out.later hb); have HB := Lib.hid (below_on HB.out hb); clear hb)
            | (go_at_call 14; refine (cs_side p ⟨(f : Int), (t : Int), 0, 0, true⟩ _ HFm.out).mono ?_; rintro e w3 ⟨rfl, hb⟩; rw [HSd.out]; have HR1 := Lib.hid (HR1.out.later hb); have HR5 := Lib.hid (HR5.out.later hb); have HE := Lib.hid (HE.out.later hb); have HB := Lib.hid (below_on HB.out hb); clear hb))
          try simp only [List.append]
          refine late_begin 55 (by kernel_rfl) ?_
          refine ltk 0 (by kernel_rfl) (fun _ _ d _ _ h => by cases d <;> exact h) (fun o ho => ?_)
          simp only [qa, qb, qc, qd] at ho; subst ho
          apply Exists.intro
          refine ⟨Or.inl ⟨by kernel_rfl, fun w' hl => Or.inl ?_⟩, ?_⟩
          · (go_simp; try with_reducible rfl)
          simp only [Act.put, pa, pb, pc]
          refine ltk 1 (by kernel_rfl) (fun _ _ d _ _ h => by cases d <;> exact h) (fun o ho => ?_)
          simp only [qa, qb, qc, qd] at ho; subst ho
          apply Exists.intro
          refine ⟨Or.inl ⟨by kernel_rfl, fun w' hl => Or.inl ?_⟩, ?_⟩
          · (go_simp; try with_reducible rfl)
          simp only [Act.put, pa, pb, pc]
          refine ltk 2 (by kernel_rfl) (fun _ _ d _ _ h => by cases d <;> exact h) (fun o ho => ?_)
          simp only [qa, qb, qc, qd] at ho; subst ho
          apply Exists.intro
          refine ⟨Or.inl ⟨by kernel_rfl, fun w' hl => Or.inl ?_⟩, ?_⟩
          · (go_simp; try with_reducible rfl)
          simp only [Act.put, pa, pb, pc]
          refine ltk 3 (by kernel_rfl) (fun _ _ d _ _ h => by cases d <;> exact h) (fun o ho => ?_)
          simp only [qa, qb, qc, qd] at ho; subst ho
          apply Exists.intro
          refine ⟨Or.inl ⟨by kernel_rfl, fun w' hl => Or.inl ?_⟩, ?_⟩
          · (go_simp; try with_reducible rfl)
          simp only [Act.put, pa, pb, pc]
          refine ltk 4 (by kernel_rfl) (fun _ _ d _ _ h => by cases d <;> exact h) (fun o ho => ?_)
          simp only [qa, qb, qc, qd] at ho; subst ho
          apply Exists.intro
          refine ⟨Or.inl ⟨by kernel_rfl, fun w' hl => Or.inl ?_⟩, ?_⟩
          · (go_simp; try with_reducible rfl)
          simp only [Act.put, pa, pb, pc]
          refine ltk 5 (by kernel_rfl) (fun _ _ d _ _ h => by cases d <;> exact h) (fun o ho => ?_)
          simp only [qa, qb, qc, qd] at ho; subst ho
          apply Exists.intro
          refine ⟨Or.inl ⟨by kernel_rfl, fun w' hl => Or.inl ?_⟩, ?_⟩
          · (go_simp; try with_reducible rfl)
          simp only [Act.put, pa, pb, pc]
          refine ltk 6 (by kernel_rfl) (fun _ _ d _ _ h => by cases d <;> exact h) (fun o ho => ?_)
          simp only [qa, qb, qc, qd] at ho; subst ho
          apply Exists.intro
          refine ⟨Or.inl ⟨by kernel_rfl, fun w' hl => Or.inl ?_⟩, ?_⟩
          · (go_simp; try with_reducible rfl)
          simp only [Act.put, pa, pb, pc]
          refine ltk 7 (by kernel_rfl) (fun _ _ d _ _ h => by cases d <;> exact h) (fun o ho => ?_)
          simp only [qa, qb, qc, qd] at ho; subst ho
          apply Exists.intro
          refine ⟨Or.inl ⟨by kernel_rfl, fun w' hl => Or.inl ?_⟩, ?_⟩
          · (go_simp; try with_reducible rfl)
          simp only [Act.put, pa, pb, pc]
          refine ltk 8 (by kernel_rfl) (fun _ _ d _ _ h => by cases d <;> exact h) (fun o ho => ?_)
          simp only [qa, qb, qc, qd] at ho; subst ho
          refine ⟨.int .i8 (f : Int), Or.inl ⟨by kernel_rfl, fun w' hl => Or.inl (run_get 26 _ rfl b5 0 rfl Tryd.underlying26 rfl (.int .i8 (f : Int)) (((HR5.out.later hl).cell 0).trans rfl))⟩, ?_⟩
          simp only [Act.put, pa, pb, pc]
          refine ltk 9 (by kernel_rfl) (fun _ _ d _ _ h => by cases d <;> exact h) (fun o ho => ?_)
          simp only [qa, qb, qc, qd] at ho; subst ho
          apply Exists.intro
          refine ⟨Or.inl ⟨by kernel_rfl, fun w' hl => Or.inl ?_⟩, ?_⟩
          · (go_simp; try with_reducible rfl)
          simp only [Act.put, pa, pb, pc]
          refine ltk 10 (by kernel_rfl) (fun _ _ d _ _ h => by cases d <;> exact h) (fun o ho => ?_)
          simp only [qa, qb, qc, qd] at ho; subst ho
          refine ⟨.pointer (some ⟨b1, 1 + f, none⟩), Or.inl ⟨by kernel_rfl, fun w' hl => Or.inl ?_⟩, ?_⟩
          · (go_simp <;> (intro hbad; omega))
          simp only [Act.put, pa, pb, pc]
          refine ltk 11 (by kernel_rfl) (fun _ _ d _ _ h => by cases d <;> exact h) (fun o ho => ?_)
          simp only [qa, qb, qc, qd] at ho; subst ho
          refine ⟨.int .u8 14, Or.inl ⟨by kernel_rfl, fun w' hl => Or.inl (run_get 5 _ rfl b1 (1 + f) rfl Tryd.underlying5 rfl (.int .u8 14) (((HR1.out.later hl).cell (1 + f) (by omega)).trans (by rw [kAt_board (Nat.zero_le _) hf64, HKg.out])))⟩, ?_⟩
          simp only [Act.put, pa, pb, pc]
          refine ltk 12 (by kernel_rfl) (fun _ _ d _ _ h => by cases d <;> exact h) (fun o ho => ?_)
          simp only [qa, qb, qc, qd] at ho; subst ho
          apply Exists.intro
          refine ⟨Or.inl ⟨by kernel_rfl, fun w' hl => Or.inl ?_⟩, ?_⟩
          · (go_simp; try with_reducible rfl)
          simp only [Act.put, pa, pb, pc]
          refine ltk 13 (by kernel_rfl) (fun _ _ d _ _ h => by cases d <;> exact h) (fun o ho => ?_)
          simp only [qa, qb, qc, qd] at ho; subst ho
          refine ⟨.int .u8 1, Or.inl ⟨by kernel_rfl, fun w' hl => Or.inl (run_get 5 _ rfl b1 78 rfl Tryd.underlying5 rfl (.int .u8 1) (((HR1.out.later hl).cell 78 (by decide)).trans (by rw [HC.out]; rfl)))⟩, ?_⟩
          simp only [Act.put, pa, pb, pc]
          refine ltk 14 (by kernel_rfl) (fun _ _ d _ _ h => by cases d <;> exact h) (fun o ho => ?_)
          simp only [qa, qb, qc, qd] at ho; subst ho
          refine ⟨.int .u8 8, Or.inl ⟨by kernel_rfl, fun w' hl => Or.inl ?_⟩, ?_⟩
          · (go_simp <;> (first | rfl | rw [ew] | rw [ew2] | omega))
          simp only [Act.put, pa, pb, pc]
          refine ltk 15 (by kernel_rfl) (fun _ _ d _ _ h => by cases d <;> exact h) (fun o ho => ?_)
          simp only [qa, qb, qc, qd] at ho; subst ho
          refine ⟨.int .u8 14, Or.inl ⟨by kernel_rfl, fun w' hl => Or.inl ?_⟩, ?_⟩
          · (go_simp <;> (first | rfl | rw [ew] | rw [ew2] | omega))
          simp only [Act.put, pa, pb, pc]
          refine ltk 16 (by kernel_rfl) (fun _ _ d _ _ h => by cases d <;> exact h) (fun o ho => ?_)
          simp only [qa, qb, qc, qd] at ho; subst ho
          apply Exists.intro
          refine ⟨Or.inl ⟨by kernel_rfl, fun w' hl => Or.inl ?_⟩, ?_⟩
          · (go_simp; try with_reducible rfl)
          simp only [Act.put, pa, pb, pc]
          refine ltk 17 (by kernel_rfl) (fun _ _ d _ _ h => by cases d <;> exact h) (fun o ho => ?_)
          simp only [qa, qb, qc, qd] at ho; subst ho
          apply Exists.intro
          refine ⟨Or.inl ⟨by kernel_rfl, fun w' hl => Or.inl ?_⟩, ?_⟩
          · (go_simp; try with_reducible rfl)
          simp only [Act.put, pa, pb, pc]
          refine ltk 18 (by kernel_rfl) (fun _ _ d _ _ h => by cases d <;> exact h) (fun o ho => ?_)
          simp only [qa, qb, qc, qd] at ho; subst ho
          apply Exists.intro
          refine ⟨Or.inl ⟨by kernel_rfl, fun w' hl => Or.inl ?_⟩, ?_⟩
          · (go_simp; try with_reducible rfl)
          simp only [Act.put, pa, pb, pc]
          refine ltk 19 (by kernel_rfl) (fun _ _ d _ _ h => by cases d <;> exact h) (fun o ho => ?_)
          simp only [qa, qb, qc, qd] at ho; subst ho
          apply Exists.intro
          refine ⟨Or.inl ⟨by kernel_rfl, fun w' hl => Or.inl ?_⟩, ?_⟩
          · (go_simp; try with_reducible rfl)
          simp only [Act.put, pa, pb, pc]
          refine ltk 20 (by kernel_rfl) (fun _ _ d _ _ h => by cases d <;> exact h) (fun o ho => ?_)
          simp only [qa, qb, qc, qd] at ho; subst ho
          refine ⟨.int .i8 (t : Int), Or.inl ⟨by kernel_rfl, fun w' hl => Or.inl (run_get 26 _ rfl b5 1 rfl Tryd.underlying26 rfl (.int .i8 (t : Int)) (((HR5.out.later hl).cell 1).trans rfl))⟩, ?_⟩
          simp only [Act.put, pa, pb, pc]
          refine ltk 21 (by kernel_rfl) (fun _ _ d _ _ h => by cases d <;> exact h) (fun o ho => ?_)
          simp only [qa, qb, qc, qd] at ho; subst ho
          apply Exists.intro
          refine ⟨Or.inl ⟨by kernel_rfl, fun w' hl => Or.inl ?_⟩, ?_⟩
          · (go_simp; try with_reducible rfl)
          simp only [Act.put, pa, pb, pc]
          refine ltk 22 (by kernel_rfl) (fun _ _ d _ _ h => by cases d <;> exact h) (fun o ho => ?_)
          simp only [qa, qb, qc, qd] at ho; subst ho
          refine ⟨.pointer (some ⟨b1, 1 + t, none⟩), Or.inl ⟨by kernel_rfl, fun w' hl => Or.inl ?_⟩, ?_⟩
          · (go_simp <;> (intro hbad; omega))
          simp only [Act.put, pa, pb, pc]
          refine ltk 23 (by kernel_rfl) (fun _ _ d _ _ h => by cases d <;> exact h) (fun o ho => ?_)
          simp only [qa, qb, qc, qd] at ho; subst ho
          refine ⟨.int .u8 12, Or.inl ⟨by kernel_rfl, fun w' hl => Or.inl (run_get 5 _ rfl b1 (1 + t) rfl Tryd.underlying5 rfl (.int .u8 12) (((HR1.out.later hl).cell (1 + t) (by omega)).trans (by rw [kAt_board (Nat.zero_le _) ht64, HRk.out])))⟩, ?_⟩
          simp only [Act.put, pa, pb, pc]
          refine ltk 24 (by kernel_rfl) (fun _ _ d _ _ h => by cases d <;> exact h) (fun o ho => ?_)
          simp only [qa, qb, qc, qd] at ho; subst ho
          apply Exists.intro
          refine ⟨Or.inl ⟨by kernel_rfl, fun w' hl => Or.inl ?_⟩, ?_⟩
          · (go_simp; try with_reducible rfl)
          simp only [Act.put, pa, pb, pc]
          refine ltk 25 (by kernel_rfl) (fun _ _ d _ _ h => by cases d <;> exact h) (fun o ho => ?_)
          simp only [qa, qb, qc, qd] at ho; subst ho
          refine ⟨.int .u8 1, Or.inl ⟨by kernel_rfl, fun w' hl => Or.inl (run_get 5 _ rfl b1 78 rfl Tryd.underlying5 rfl (.int .u8 1) (((HR1.out.later hl).cell 78 (by decide)).trans (by rw [HC.out]; rfl)))⟩, ?_⟩
          simp only [Act.put, pa, pb, pc]
          refine ltk 26 (by kernel_rfl) (fun _ _ d _ _ h => by cases d <;> exact h) (fun o ho => ?_)
          simp only [qa, qb, qc, qd] at ho; subst ho
          refine ⟨.int .u8 8, Or.inl ⟨by kernel_rfl, fun w' hl => Or.inl ?_⟩, ?_⟩
          · (go_simp <;> (first | rfl | rw [ew] | rw [ew2] | omega))
          simp only [Act.put, pa, pb, pc]
          refine ltk 27 (by kernel_rfl) (fun _ _ d _ _ h => by cases d <;> exact h) (fun o ho => ?_)
          simp only [qa, qb, qc, qd] at ho; subst ho
          refine ⟨.int .u8 12, Or.inl ⟨by kernel_rfl, fun w' hl => Or.inl ?_⟩, ?_⟩
          · (go_simp <;> (first | rfl | rw [ew] | rw [ew2] | omega))
          simp only [Act.put, pa, pb, pc]
          refine ltk 28 (by kernel_rfl) (fun _ _ d _ _ h => by cases d <;> exact h) (fun o ho => ?_)
          simp only [qa, qb, qc, qd] at ho; subst ho
          apply Exists.intro
          refine ⟨Or.inl ⟨by kernel_rfl, fun w' hl => Or.inl ?_⟩, ?_⟩
          · (go_simp; try with_reducible rfl)
          simp only [Act.put, pa, pb, pc]
          refine ltk 29 (by kernel_rfl) (fun _ _ d _ _ h => by cases d <;> exact h) (fun o ho => ?_)
          simp only [qa, qb, qc, qd] at ho; subst ho
          apply Exists.intro
          refine ⟨Or.inl ⟨by kernel_rfl, fun w' hl => Or.inl ?_⟩, ?_⟩
          · (go_simp; try with_reducible rfl)
          simp only [Act.put, pa, pb, pc]
          refine ltk 30 (by kernel_rfl) (fun _ _ d _ _ h => by cases d <;> exact h) (fun o ho => ?_)
          simp only [qa, qb, qc, qd] at ho; subst ho
          apply Exists.intro
          refine ⟨Or.inl ⟨by kernel_rfl, fun w' hl => Or.inl ?_⟩, ?_⟩
          · (go_simp; try with_reducible rfl)
          simp only [Act.put, pa, pb, pc]
          refine ltk 31 (by kernel_rfl) (fun _ _ d _ _ h => by cases d <;> exact h) (fun o ho => ?_)
          simp only [qa, qb, qc, qd] at ho; subst ho
          apply Exists.intro
          refine ⟨Or.inl ⟨by kernel_rfl, fun w' hl => Or.inl ?_⟩, ?_⟩
          · (go_simp; try with_reducible rfl)
          simp only [Act.put, pa, pb, pc]
          refine ltk 32 (by kernel_rfl) (fun _ _ d _ _ h => by cases d <;> exact h) (fun o ho => ?_)
          simp only [qa, qb, qc, qd] at ho; subst ho
          refine ⟨.int .i8 (f : Int), Or.inl ⟨by kernel_rfl, fun w' hl => Or.inl (run_get 26 _ rfl b5 0 rfl Tryd.underlying26 rfl (.int .i8 (f : Int)) (((HR5.out.later hl).cell 0).trans rfl))⟩, ?_⟩
          simp only [Act.put, pa, pb, pc]
          refine ltk 33 (by kernel_rfl) (fun _ _ d _ _ h => by cases d <;> exact h) (fun o ho => ?_)
          simp only [qa, qb, qc, qd] at ho; subst ho
          refine ⟨.int .i8 7, Or.inl ⟨by kernel_rfl, fun w' hl => Or.inl ?_⟩, ?_⟩
          · (go_simp <;> (first | rfl | rw [ef] | rw [ef2] | omega))
          simp only [Act.put, pa, pb, pc]
          refine ltk 34 (by kernel_rfl) (fun _ _ d _ _ h => by cases d <;> exact h) (fun o ho => ?_)
          simp only [qa, qb, qc, qd] at ho; subst ho
          apply Exists.intro
          refine ⟨Or.inl ⟨by kernel_rfl, fun w' hl => Or.inl ?_⟩, ?_⟩
          · (go_simp; try with_reducible rfl)
          simp only [Act.put, pa, pb, pc]
          refine ltk 35 (by kernel_rfl) (fun _ _ d _ _ h => by cases d <;> exact h) (fun o ho => ?_)
          simp only [qa, qb, qc, qd] at ho; subst ho
          refine ⟨.int .i8 (t : Int), Or.inl ⟨by kernel_rfl, fun w' hl => Or.inl (run_get 26 _ rfl b5 1 rfl Tryd.underlying26 rfl (.int .i8 (t : Int)) (((HR5.out.later hl).cell 1).trans rfl))⟩, ?_⟩
          simp only [Act.put, pa, pb, pc]
          refine ltk 36 (by kernel_rfl) (fun _ _ d _ _ h => by cases d <;> exact h) (fun o ho => ?_)
          simp only [qa, qb, qc, qd] at ho; subst ho
          refine ⟨.int .i8 7, Or.inl ⟨by kernel_rfl, fun w' hl => Or.inl ?_⟩, ?_⟩
          · (go_simp <;> (first | rfl | rw [et] | rw [et2] | omega))
          simp only [Act.put, pa, pb, pc]
          refine ltk 37 (by kernel_rfl) (fun _ _ d _ _ h => by cases d <;> exact h) (fun o ho => ?_)
          simp only [qa, qb, qc, qd] at ho; subst ho
          apply Exists.intro
          refine ⟨Or.inl ⟨by kernel_rfl, fun w' hl => Or.inl ?_⟩, ?_⟩
          · (go_simp; try with_reducible rfl)
          simp only [Act.put, pa, pb, pc]
          refine ltk 38 (by kernel_rfl) (fun _ _ d _ _ h => by cases d <;> exact h) (fun o ho => ?_)
          simp only [qa, qb, qc, qd] at ho; subst ho
          apply Exists.intro
          refine ⟨Or.inl ⟨by kernel_rfl, fun w' hl => Or.inl ?_⟩, ?_⟩
          · (go_simp; try with_reducible rfl)
          simp only [Act.put, pa, pb, pc]
          refine ltk 39 (by kernel_rfl) (fun _ _ d _ _ h => by cases d <;> exact h) (fun o ho => ?_)
          simp only [qa, qb, qc, qd] at ho; subst ho
          apply Exists.intro
          refine ⟨Or.inl ⟨by kernel_rfl, fun w' hl => Or.inl ?_⟩, ?_⟩
          · (go_simp; try with_reducible rfl)
          simp only [Act.put, pa, pb, pc]
          refine ltk 40 (by kernel_rfl) (fun _ _ d _ _ h => by cases d <;> exact h) (fun o ho => ?_)
          simp only [qa, qb, qc, qd] at ho; subst ho
          apply Exists.intro
          refine ⟨Or.inl ⟨by kernel_rfl, fun w' hl => Or.inl ?_⟩, ?_⟩
          · (go_simp; try with_reducible rfl)
          simp only [Act.put, pa, pb, pc]
          refine ltk 41 (by kernel_rfl) (fun _ _ d _ _ h => by cases d <;> exact h) (fun o ho => ?_)
          simp only [qa, qb, qc, qd] at ho; subst ho
          apply Exists.intro
          refine ⟨Or.inl ⟨by kernel_rfl, fun w' hl => Or.inl ?_⟩, ?_⟩
          · (go_simp; try with_reducible rfl)
          simp only [Act.put, pa, pb, pc]
          refine ltk 42 (by kernel_rfl) (fun _ _ d _ _ h => by cases d <;> exact h) (fun o ho => ?_)
          simp only [qa, qb, qc, qd] at ho; subst ho
          apply Exists.intro
          refine ⟨Or.inl ⟨by kernel_rfl, fun w' hl => Or.inl ?_⟩, ?_⟩
          · (go_simp; try with_reducible rfl)
          simp only [Act.put, pa, pb, pc]
          refine ltk 43 (by kernel_rfl) (fun _ _ d _ _ h => by cases d <;> exact h) (fun o ho => ?_)
          simp only [qa, qb, qc, qd] at ho; subst ho
          refine ⟨.int .i8 (f : Int), Or.inl ⟨by kernel_rfl, fun w' hl => Or.inl (run_get 26 _ rfl b5 0 rfl Tryd.underlying26 rfl (.int .i8 (f : Int)) (((HR5.out.later hl).cell 0).trans rfl))⟩, ?_⟩
          simp only [Act.put, pa, pb, pc]
          refine ltk 44 (by kernel_rfl) (fun _ _ d _ _ h => by cases d <;> exact h) (fun o ho => ?_)
          simp only [qa, qb, qc, qd] at ho; subst ho
          refine ⟨.int .i8 7, Or.inl ⟨by kernel_rfl, fun w' hl => Or.inl ?_⟩, ?_⟩
          · (go_simp <;> (first | rfl | rw [ef] | rw [ef2] | omega))
          simp only [Act.put, pa, pb, pc]
          refine ltk 45 (by kernel_rfl) (fun _ _ d _ _ h => by cases d <;> exact h) (fun o ho => ?_)
          simp only [qa, qb, qc, qd] at ho; subst ho
          apply Exists.intro
          refine ⟨Or.inl ⟨by kernel_rfl, fun w' hl => Or.inl ?_⟩, ?_⟩
          · (go_simp; try with_reducible rfl)
          simp only [Act.put, pa, pb, pc]
          refine ltk 46 (by kernel_rfl) (fun _ _ d _ _ h => by cases d <;> exact h) (fun o ho => ?_)
          simp only [qa, qb, qc, qd] at ho; subst ho
          apply Exists.intro
          refine ⟨Or.inl ⟨by kernel_rfl, fun w' hl => Or.inl ?_⟩, ?_⟩
          · (go_simp; try with_reducible rfl)
          simp only [Act.put, pa, pb, pc]
          refine ltk 47 (by kernel_rfl) (fun _ _ d _ _ h => by cases d <;> exact h) (fun o ho => ?_)
          simp only [qa, qb, qc, qd] at ho; subst ho
          apply Exists.intro
          refine ⟨Or.inl ⟨by kernel_rfl, fun w' hl => Or.inl ?_⟩, ?_⟩
          · (go_simp; try with_reducible rfl)
          simp only [Act.put, pa, pb, pc]
          refine ltk 48 (by kernel_rfl) (fun _ _ d _ _ h => by cases d <;> exact h) (fun o ho => ?_)
          simp only [qa, qb, qc, qd] at ho; subst ho
          apply Exists.intro
          refine ⟨Or.inl ⟨by kernel_rfl, fun w' hl => Or.inl ?_⟩, ?_⟩
          · (go_simp; try with_reducible rfl)
          simp only [Act.put, pa, pb, pc]
          refine ltk 49 (by kernel_rfl) (fun _ _ d _ _ h => by cases d <;> exact h) (fun o ho => ?_)
          simp only [qa, qb, qc, qd] at ho; subst ho
          apply Exists.intro
          refine ⟨Or.inl ⟨by kernel_rfl, fun w' hl => Or.inl ?_⟩, ?_⟩
          · (go_simp; try with_reducible rfl)
          simp only [Act.put, pa, pb, pc]
          refine ltk 50 (by kernel_rfl) (fun _ _ d _ _ h => by cases d <;> exact h) (fun o ho => ?_)
          simp only [qa, qb, qc, qd] at ho; subst ho
          apply Exists.intro
          refine ⟨Or.inl ⟨by kernel_rfl, fun w' hl => Or.inl ?_⟩, ?_⟩
          · (go_simp; try with_reducible rfl)
          simp only [Act.put, pa, pb, pc]
          refine ltk 51 (by kernel_rfl) (fun _ _ d _ _ h => by cases d <;> exact h) (fun o ho => ?_)
          simp only [qa, qb, qc, qd] at ho; subst ho
          apply Exists.intro
          refine ⟨Or.inl ⟨by kernel_rfl, fun w' hl => Or.inl ?_⟩, ?_⟩
          · (go_simp; try with_reducible rfl)
          simp only [Act.put, pa, pb, pc]
          refine ltk 52 (by kernel_rfl) (fun _ _ d _ _ h => by cases d <;> exact h) (fun o ho => ?_)
          simp only [qa, qb, qc, qd] at ho; subst ho
          apply Exists.intro
          refine ⟨Or.inl ⟨by kernel_rfl, fun w' hl => Or.inl ?_⟩, ?_⟩
          · (go_simp; try with_reducible rfl)
          simp only [Act.put, pa, pb, pc]
          refine ltk 53 (by kernel_rfl) (fun _ _ d _ _ h => by cases d <;> exact h) (fun o ho => ?_)
          simp only [qa, qb, qc, qd] at ho; subst ho
          apply Exists.intro
          refine ⟨Or.inl ⟨by kernel_rfl, fun w' hl => Or.inl ?_⟩, ?_⟩
          · (go_simp; try with_reducible rfl)
          simp only [Act.put, pa, pb, pc]
          refine ltk 54 (by kernel_rfl) (fun _ _ d _ _ h => by cases d <;> exact h) (fun o ho => ?_)
          simp only [qa, qb, qc, qd] at ho; subst ho
          apply Exists.intro
          refine ⟨Or.inl ⟨by kernel_rfl, fun w' hl => Or.inl ?_⟩, ?_⟩
          · (go_simp; try with_reducible rfl)
          simp only [Act.put, pa, pb, pc]
          refine late_end (by kernel_rfl) (fun wn hl => ?_)
          have HR1 := Lib.hid (HR1.out.later hl); have HR5 := Lib.hid (HR5.out.later hl); have HE := Lib.hid (HE.out.later hl); have HB := Lib.hid (below_on HB.out hl); clear hl
          go_wp2_with (first
            | (guard_target = Go.wpList _ _ _ ((⟨some _, .load _ (.tmp 99), _, _, _, _⟩ : Go.Oper) :: _) _ _; refine step_get rfl 26 _ rfl b5 1 rfl Tryd.underlying26 rfl (.int .i8 (t : Int)) ?_ ?_; exact (HR5.out.cell 1).trans rfl)
            | (guard_target = Go.wpList _ _ _ ((⟨some _, .load _ (.tmp 101), _, _, _, _⟩ : Go.Oper) :: _) _ _; refine step_get rfl 26 _ rfl b5 0 rfl Tryd.underlying26 rfl (.int .i8 (f : Int)) ?_ ?_; exact (HR5.out.cell 0).trans rfl)
            | (guard_target = Go.wpList _ _ _ ((⟨some _, .load _ (.tmp 119), _, _, _, _⟩ : Go.Oper) :: _) _ _; refine step_get rfl 26 _ rfl b5 1 rfl Tryd.underlying26 rfl (.int .i8 (t : Int)) ?_ ?_; exact (HR5.out.cell 1).trans rfl)
            | (guard_target = Go.wpList _ _ _ ((⟨some _, .load _ (.tmp 121), _, _, _, _⟩ : Go.Oper) :: _) _ _; refine step_get rfl 26 _ rfl b5 0 rfl Tryd.underlying26 rfl (.int .i8 (f : Int)) ?_ ?_; exact (HR5.out.cell 0).trans rfl))
          refine late_begin 13 (by kernel_rfl) ?_
          refine ltk 0 (by kernel_rfl) (fun _ _ d _ _ h => by cases d <;> exact h) (fun o ho => ?_)
          simp only [qa, qb, qc, qd] at ho; subst ho
          apply Exists.intro
          refine ⟨Or.inl ⟨by kernel_rfl, fun w' hl => Or.inl ?_⟩, ?_⟩
          · (go_simp; try with_reducible rfl)
          simp only [Act.put, pa, pb, pc]
          refine ltk 1 (by kernel_rfl) (fun _ _ d _ _ h => by cases d <;> exact h) (fun o ho => ?_)
          simp only [qa, qb, qc, qd] at ho; subst ho
          refine ⟨.int .u8 1, Or.inl ⟨by kernel_rfl, fun w' hl => Or.inl (run_get 5 _ rfl b1 78 rfl Tryd.underlying5 rfl (.int .u8 1) (((HR1.out.later hl).cell 78 (by decide)).trans (by rw [HC.out]; rfl)))⟩, ?_⟩
          simp only [Act.put, pa, pb, pc]
          refine ltk 2 (by kernel_rfl) (fun _ _ d _ _ h => by cases d <;> exact h) (fun o ho => ?_)
          simp only [qa, qb, qc, qd] at ho; subst ho
          apply Exists.intro
          refine ⟨Or.inl ⟨by kernel_rfl, fun w' hl => Or.inl ?_⟩, ?_⟩
          · (go_simp; try with_reducible rfl)
          simp only [Act.put, pa, pb, pc]
          refine ltk 3 (by kernel_rfl) (fun _ _ d _ _ h => by cases d <;> exact h) (fun o ho => ?_)
          simp only [qa, qb, qc, qd] at ho; subst ho
          apply Exists.intro
          refine ⟨Or.inl ⟨by kernel_rfl, fun w' hl => Or.inl ?_⟩, ?_⟩
          · (go_simp; try with_reducible rfl)
          simp only [Act.put, pa, pb, pc]
          refine ltk 4 (by kernel_rfl) (fun _ _ d _ _ h => by cases d <;> exact h) (fun o ho => ?_)
          simp only [qa, qb, qc, qd] at ho; subst ho
          apply Exists.intro
          refine ⟨Or.inl ⟨by kernel_rfl, fun w' hl => Or.inl ?_⟩, ?_⟩
          · (go_simp; try with_reducible rfl)
          simp only [Act.put, pa, pb, pc]
          refine ltk 5 (by kernel_rfl) (fun _ _ d _ _ h => by cases d <;> exact h) (fun o ho => ?_)
          simp only [qa, qb, qc, qd] at ho; subst ho
          apply Exists.intro
          refine ⟨Or.inl ⟨by kernel_rfl, fun w' hl => Or.inl ?_⟩, ?_⟩
          · (go_simp; try with_reducible rfl)
          simp only [Act.put, pa, pb, pc]
          refine ltk 6 (by kernel_rfl) (fun _ _ d _ _ h => by cases d <;> exact h) (fun o ho => ?_)
          simp only [qa, qb, qc, qd] at ho; subst ho
          refine ⟨.int .i8 r, Or.inl ⟨by kernel_rfl, fun w' hl => Or.inl (run_get 26 _ rfl b1 (79 + 1 * 2 + 0) rfl Tryd.underlying26 rfl (.int .i8 r) (((HR1.out.later hl).cell (79 + 1 * 2 + 0) (by decide)).trans (by rw [HFl.out]; rfl)))⟩, ?_⟩
          simp only [Act.put, pa, pb, pc]
          refine ltk 7 (by kernel_rfl) (fun _ _ d _ _ h => by cases d <;> exact h) (fun o ho => ?_)
          simp only [qa, qb, qc, qd] at ho; subst ho
          refine ⟨.int .i64 r, Or.inl ⟨by kernel_rfl, fun w' hl => Or.inl ?_⟩, ?_⟩
          · (go_simp <;> (first | rfl | rw [ew] | rw [ew2] | omega))
          simp only [Act.put, pa, pb, pc]
          refine ltk 8 (by kernel_rfl) (fun _ _ d _ _ h => by cases d <;> exact h) (fun o ho => ?_)
          simp only [qa, qb, qc, qd] at ho; subst ho
          apply Exists.intro
          refine ⟨Or.inl ⟨by kernel_rfl, fun w' hl => Or.inl ?_⟩, ?_⟩
          · (go_simp; try with_reducible rfl)
          simp only [Act.put, pa, pb, pc]
          refine ltk 9 (by kernel_rfl) (fun _ _ d _ _ h => by cases d <;> exact h) (fun o ho => ?_)
          simp only [qa, qb, qc, qd] at ho; subst ho
          refine ⟨.int .i8 (t : Int), Or.inl ⟨by kernel_rfl, fun w' hl => Or.inl (run_get 26 _ rfl b5 1 rfl Tryd.underlying26 rfl (.int .i8 (t : Int)) (((HR5.out.later hl).cell 1).trans rfl))⟩, ?_⟩
          simp only [Act.put, pa, pb, pc]
          refine ltk 10 (by kernel_rfl) (fun _ _ d _ _ h => by cases d <;> exact h) (fun o ho => ?_)
          simp only [qa, qb, qc, qd] at ho; subst ho
          refine ⟨.int .i8 r, Or.inl ⟨by kernel_rfl, fun w' hl => Or.inl ?_⟩, ?_⟩
          · (go_simp <;> (first | rfl | rw [em] | rw [em2] | omega))
          simp only [Act.put, pa, pb, pc]
          refine ltk 11 (by kernel_rfl) (fun _ _ d _ _ h => by cases d <;> exact h) (fun o ho => ?_)
          simp only [qa, qb, qc, qd] at ho; subst ho
          refine ⟨.int .i64 r, Or.inl ⟨by kernel_rfl, fun w' hl => Or.inl ?_⟩, ?_⟩
          · (go_simp <;> (first | rfl | rw [ew] | rw [ew2] | omega))
          simp only [Act.put, pa, pb, pc]
          refine ltk 12 (by kernel_rfl) (fun _ _ d _ _ h => by cases d <;> exact h) (fun o ho => ?_)
          simp only [qa, qb, qc, qd] at ho; subst ho
          apply Exists.intro
          refine ⟨Or.inl ⟨by kernel_rfl, fun w' hl => Or.inl ?_⟩, ?_⟩
          · (go_simp; try with_reducible rfl)
          simp only [Act.put, pa, pb, pc]
          refine late_end (by kernel_rfl) (fun wn hl => ?_)
          have HR1 := Lib.hid (HR1.out.later hl); have HR5 := Lib.hid (HR5.out.later hl); have HE := Lib.hid (HE.out.later hl); have HB := Lib.hid (below_on HB.out hl); clear hl
          go_wp2_with fail
          go_roundw
          case rel => exact ⟨i + 1, by have := HLt.out; omega, by go_num, HR1.out, HE.out, HB.out⟩
          case measure => simp [intOf]; have := HLt.out; omega
        · have HC := Lib.hid (show p 78 = 1 from cm.turn)
          have HK1 := Lib.hid (show hmC (p 78) + gkC ((1 : Nat) : Int) = 58 by rw [HC.out]; rfl)
          have HK2 := Lib.hid (show hmC (p 78) + grC ((1 : Nat) : Int) = 59 by rw [HC.out]; rfl)
          have HSd := Lib.hid cm.sd
          have HKg := Lib.hid (show p (1 + f) = 14 from cm.king)
          have HRk := Lib.hid (show p (1 + t) = 12 from cm.rook)
          have HFl := Lib.hid (show p (79 + 1 * 2 + 1) = r from cm.file.trans hr)
          have hs := cm.side
          have hh := cm.home
          have ef : IntKind.i8.wrap ((f : Int).tdiv 8) = 7 := by rw [Int.tdiv_eq_ediv_of_nonneg (by omega)]; rw [hh.1]; rfl
          have et : IntKind.i8.wrap ((t : Int).tdiv 8) = 7 := by rw [Int.tdiv_eq_ediv_of_nonneg (by omega)]; rw [hh.2]; rfl
          have ef2 : IntKind.i8.wrap ((f : Int) / 8) = 7 := by rw [hh.1]; rfl
          have et2 : IntKind.i8.wrap ((t : Int) / 8) = 7 := by rw [hh.2]; rfl
          have q1 : decide (t ≤ f) = true := decide_eq_true (by simp at hs; omega)
          have q2 : decide ((t : Int) ≤ (f : Int)) = true := decide_eq_true (by simp at hs; omega)
          have q3 : decide (f ≤ t) = false := decide_eq_false (by simp at hs; omega)
          have q4 : decide ((f : Int) ≤ (t : Int)) = false := decide_eq_false (by simp at hs; omega)
          clear cm hs hh c2 n2 hr
          go_wp2_with (first
            | (guard_target = Go.wpList _ _ _ ((⟨some 21, .load _ (.tmp 20), _, _, _, _⟩ : Go.Oper) :: _) _ _; refine step_mvI rfl _ rfl g4 i _ rfl (by first | omega | (simp; omega)) ⟨(f : Int), (t : Int), 0, 0, true⟩ (HE.out.get HX.out) ?_)
            | (guard_target = Go.wpList _ _ _ ((⟨some 5, .alloc _, _, _, _, _⟩ : Go.Oper) :: _) _ _; refine blk_alloc rfl 36 rfl (mvA mv0) zeroMv ?_; intro b5 wn N R; have HG5 := Lib.hid (show w.heap.size ≤ b5 by have := HB.out.size; have := N.at_; omega); have HY1 := Lib.hid (show b1 ≠ b5 from Nat.ne_of_lt (by have h1 := HR1.out.lt; have := N.at_; omega)); have HY3 := Lib.hid (show g4 ≠ b5 from Nat.ne_of_lt (by have h1 := Mvs.lt HE.out HX.out; have := N.at_; omega)); have HR1 := Lib.hid (HR1.out.later N.below); have HE := Lib.hid (HE.out.later N.below); have HR5 := Lib.hid R; have HB := Lib.hid (below_on HB.out N.below); clear N R)
            | (guard_target = Go.wpList _ _ _ ((⟨none, .store _ (.tmp 5) _, _, _, _, _⟩ : Go.Oper) :: _) _ _; refine blk_store rfl 36 _ _ rfl b5 rfl (mvA mv0) (mvA ⟨(f : Int), (t : Int), 0, 0, true⟩) rfl HR5.out rfl (mv_one _) sizeMv ?_; intro wn U R; have HR1 := Lib.hid (HR1.out.apart U HY1.out); have HE := Lib.hid (Mvs.upd HE.out U HY3.out); have HR5 := Lib.hid R; have HB := Lib.hid (HB.out.trans (U.below HG5.out)); clear U R)
            | (guard_target = Go.wpList _ _ _ ((⟨some _, .load _ (.tmp 1), _, _, _, _⟩ : Go.Oper) :: _) _ _; refine step_load rfl _ rfl b1 rfl p HR1.out ?_)
            | (guard_target = Go.wpList _ _ _ ((⟨some _, .load _ (.tmp 5), _, _, _, _⟩ : Go.Oper) :: _) _ _; refine blk_load rfl 36 _ rfl b5 rfl (mvA ⟨(f : Int), (t : Int), 0, 0, true⟩) HR5.out _ Tryd.underlying36 rfl sizeMv ?_)
            | (go_at_call 13; refine (cs_goals p ⟨(f : Int), (t : Int), 0, 0, true⟩ 1 (by decide) _ HFm.out HSd.out (HT.out.on HB.out).gl).mono ?_; rintro e w3 ⟨rfl, hb⟩; rw [HK1.out, HK2.out]; have HR1 := Lib.hid (HR1.out.later hb); have HR5 := Lib.hid (HR5.out.later hb); have HE := Lib.hid (HE.out.later hb); have HB := Lib.hid (below_on HB.out hb); clear hb)
            | (go_at_call 14; refine (cs_side p ⟨(f : Int), (t : Int), 0, 0, true⟩ _ HFm.out).mono ?_; rintro e w3 ⟨rfl, hb⟩; rw [HSd.out]; have HR1 := Lib.hid (HR1.out.later hb); have HR5 := Lib.hid (HR5.out.later hb); have HE := Lib.hid (HE.out.later hb); have HB := Lib.hid (below_on HB.out hb); clear hb))
          try simp only [List.append]
          refine late_begin 55 (by kernel_rfl) ?_
          refine ltk 0 (by kernel_rfl) (fun _ _ d _ _ h => by cases d <;> exact h) (fun o ho => ?_)
          simp only [qa, qb, qc, qd] at ho; subst ho
          apply Exists.intro
          refine ⟨Or.inl ⟨by kernel_rfl, fun w' hl => Or.inl ?_⟩, ?_⟩
          · (go_simp; try with_reducible rfl)
          simp only [Act.put, pa, pb, pc]
          refine ltk 1 (by kernel_rfl) (fun _ _ d _ _ h => by cases d <;> exact h) (fun o ho => ?_)
          simp only [qa, qb, qc, qd] at ho; subst ho
          apply Exists.intro
          refine ⟨Or.inl ⟨by kernel_rfl, fun w' hl => Or.inl ?_⟩, ?_⟩
          · (go_simp; try with_reducible rfl)
          simp only [Act.put, pa, pb, pc]
          refine ltk 2 (by kernel_rfl) (fun _ _ d _ _ h => by cases d <;> exact h) (fun o ho => ?_)
          simp only [qa, qb, qc, qd] at ho; subst ho
          apply Exists.intro
          refine ⟨Or.inl ⟨by kernel_rfl, fun w' hl => Or.inl ?_⟩, ?_⟩
          · (go_simp; try with_reducible rfl)
          simp only [Act.put, pa, pb, pc]
          refine ltk 3 (by kernel_rfl) (fun _ _ d _ _ h => by cases d <;> exact h) (fun o ho => ?_)
          simp only [qa, qb, qc, qd] at ho; subst ho
          apply Exists.intro
          refine ⟨Or.inl ⟨by kernel_rfl, fun w' hl => Or.inl ?_⟩, ?_⟩
          · (go_simp; try with_reducible rfl)
          simp only [Act.put, pa, pb, pc]
          refine ltk 4 (by kernel_rfl) (fun _ _ d _ _ h => by cases d <;> exact h) (fun o ho => ?_)
          simp only [qa, qb, qc, qd] at ho; subst ho
          apply Exists.intro
          refine ⟨Or.inl ⟨by kernel_rfl, fun w' hl => Or.inl ?_⟩, ?_⟩
          · (go_simp; try with_reducible rfl)
          simp only [Act.put, pa, pb, pc]
          refine ltk 5 (by kernel_rfl) (fun _ _ d _ _ h => by cases d <;> exact h) (fun o ho => ?_)
          simp only [qa, qb, qc, qd] at ho; subst ho
          apply Exists.intro
          refine ⟨Or.inl ⟨by kernel_rfl, fun w' hl => Or.inl ?_⟩, ?_⟩
          · (go_simp; try with_reducible rfl)
          simp only [Act.put, pa, pb, pc]
          refine ltk 6 (by kernel_rfl) (fun _ _ d _ _ h => by cases d <;> exact h) (fun o ho => ?_)
          simp only [qa, qb, qc, qd] at ho; subst ho
          apply Exists.intro
          refine ⟨Or.inl ⟨by kernel_rfl, fun w' hl => Or.inl ?_⟩, ?_⟩
          · (go_simp; try with_reducible rfl)
          simp only [Act.put, pa, pb, pc]
          refine ltk 7 (by kernel_rfl) (fun _ _ d _ _ h => by cases d <;> exact h) (fun o ho => ?_)
          simp only [qa, qb, qc, qd] at ho; subst ho
          apply Exists.intro
          refine ⟨Or.inl ⟨by kernel_rfl, fun w' hl => Or.inl ?_⟩, ?_⟩
          · (go_simp; try with_reducible rfl)
          simp only [Act.put, pa, pb, pc]
          refine ltk 8 (by kernel_rfl) (fun _ _ d _ _ h => by cases d <;> exact h) (fun o ho => ?_)
          simp only [qa, qb, qc, qd] at ho; subst ho
          refine ⟨.int .i8 (f : Int), Or.inl ⟨by kernel_rfl, fun w' hl => Or.inl (run_get 26 _ rfl b5 0 rfl Tryd.underlying26 rfl (.int .i8 (f : Int)) (((HR5.out.later hl).cell 0).trans rfl))⟩, ?_⟩
          simp only [Act.put, pa, pb, pc]
          refine ltk 9 (by kernel_rfl) (fun _ _ d _ _ h => by cases d <;> exact h) (fun o ho => ?_)
          simp only [qa, qb, qc, qd] at ho; subst ho
          apply Exists.intro
          refine ⟨Or.inl ⟨by kernel_rfl, fun w' hl => Or.inl ?_⟩, ?_⟩
          · (go_simp; try with_reducible rfl)
          simp only [Act.put, pa, pb, pc]
          refine ltk 10 (by kernel_rfl) (fun _ _ d _ _ h => by cases d <;> exact h) (fun o ho => ?_)
          simp only [qa, qb, qc, qd] at ho; subst ho
          refine ⟨.pointer (some ⟨b1, 1 + f, none⟩), Or.inl ⟨by kernel_rfl, fun w' hl => Or.inl ?_⟩, ?_⟩
          · (go_simp <;> (intro hbad; omega))
          simp only [Act.put, pa, pb, pc]
          refine ltk 11 (by kernel_rfl) (fun _ _ d _ _ h => by cases d <;> exact h) (fun o ho => ?_)
          simp only [qa, qb, qc, qd] at ho; subst ho
          refine ⟨.int .u8 14, Or.inl ⟨by kernel_rfl, fun w' hl => Or.inl (run_get 5 _ rfl b1 (1 + f) rfl Tryd.underlying5 rfl (.int .u8 14) (((HR1.out.later hl).cell (1 + f) (by omega)).trans (by rw [kAt_board (Nat.zero_le _) hf64, HKg.out])))⟩, ?_⟩
          simp only [Act.put, pa, pb, pc]
          refine ltk 12 (by kernel_rfl) (fun _ _ d _ _ h => by cases d <;> exact h) (fun o ho => ?_)
          simp only [qa, qb, qc, qd] at ho; subst ho
          apply Exists.intro
          refine ⟨Or.inl ⟨by kernel_rfl, fun w' hl => Or.inl ?_⟩, ?_⟩
          · (go_simp; try with_reducible rfl)
          simp only [Act.put, pa, pb, pc]
          refine ltk 13 (by kernel_rfl) (fun _ _ d _ _ h => by cases d <;> exact h) (fun o ho => ?_)
          simp only [qa, qb, qc, qd] at ho; subst ho
          refine ⟨.int .u8 1, Or.inl ⟨by kernel_rfl, fun w' hl => Or.inl (run_get 5 _ rfl b1 78 rfl Tryd.underlying5 rfl (.int .u8 1) (((HR1.out.later hl).cell 78 (by decide)).trans (by rw [HC.out]; rfl)))⟩, ?_⟩
          simp only [Act.put, pa, pb, pc]
          refine ltk 14 (by kernel_rfl) (fun _ _ d _ _ h => by cases d <;> exact h) (fun o ho => ?_)
          simp only [qa, qb, qc, qd] at ho; subst ho
          refine ⟨.int .u8 8, Or.inl ⟨by kernel_rfl, fun w' hl => Or.inl ?_⟩, ?_⟩
          · (go_simp <;> (first | rfl | rw [ew] | rw [ew2] | omega))
          simp only [Act.put, pa, pb, pc]
          refine ltk 15 (by kernel_rfl) (fun _ _ d _ _ h => by cases d <;> exact h) (fun o ho => ?_)
          simp only [qa, qb, qc, qd] at ho; subst ho
          refine ⟨.int .u8 14, Or.inl ⟨by kernel_rfl, fun w' hl => Or.inl ?_⟩, ?_⟩
          · (go_simp <;> (first | rfl | rw [ew] | rw [ew2] | omega))
          simp only [Act.put, pa, pb, pc]
          refine ltk 16 (by kernel_rfl) (fun _ _ d _ _ h => by cases d <;> exact h) (fun o ho => ?_)
          simp only [qa, qb, qc, qd] at ho; subst ho
          apply Exists.intro
          refine ⟨Or.inl ⟨by kernel_rfl, fun w' hl => Or.inl ?_⟩, ?_⟩
          · (go_simp; try with_reducible rfl)
          simp only [Act.put, pa, pb, pc]
          refine ltk 17 (by kernel_rfl) (fun _ _ d _ _ h => by cases d <;> exact h) (fun o ho => ?_)
          simp only [qa, qb, qc, qd] at ho; subst ho
          apply Exists.intro
          refine ⟨Or.inl ⟨by kernel_rfl, fun w' hl => Or.inl ?_⟩, ?_⟩
          · (go_simp; try with_reducible rfl)
          simp only [Act.put, pa, pb, pc]
          refine ltk 18 (by kernel_rfl) (fun _ _ d _ _ h => by cases d <;> exact h) (fun o ho => ?_)
          simp only [qa, qb, qc, qd] at ho; subst ho
          apply Exists.intro
          refine ⟨Or.inl ⟨by kernel_rfl, fun w' hl => Or.inl ?_⟩, ?_⟩
          · (go_simp; try with_reducible rfl)
          simp only [Act.put, pa, pb, pc]
          refine ltk 19 (by kernel_rfl) (fun _ _ d _ _ h => by cases d <;> exact h) (fun o ho => ?_)
          simp only [qa, qb, qc, qd] at ho; subst ho
          apply Exists.intro
          refine ⟨Or.inl ⟨by kernel_rfl, fun w' hl => Or.inl ?_⟩, ?_⟩
          · (go_simp; try with_reducible rfl)
          simp only [Act.put, pa, pb, pc]
          refine ltk 20 (by kernel_rfl) (fun _ _ d _ _ h => by cases d <;> exact h) (fun o ho => ?_)
          simp only [qa, qb, qc, qd] at ho; subst ho
          refine ⟨.int .i8 (t : Int), Or.inl ⟨by kernel_rfl, fun w' hl => Or.inl (run_get 26 _ rfl b5 1 rfl Tryd.underlying26 rfl (.int .i8 (t : Int)) (((HR5.out.later hl).cell 1).trans rfl))⟩, ?_⟩
          simp only [Act.put, pa, pb, pc]
          refine ltk 21 (by kernel_rfl) (fun _ _ d _ _ h => by cases d <;> exact h) (fun o ho => ?_)
          simp only [qa, qb, qc, qd] at ho; subst ho
          apply Exists.intro
          refine ⟨Or.inl ⟨by kernel_rfl, fun w' hl => Or.inl ?_⟩, ?_⟩
          · (go_simp; try with_reducible rfl)
          simp only [Act.put, pa, pb, pc]
          refine ltk 22 (by kernel_rfl) (fun _ _ d _ _ h => by cases d <;> exact h) (fun o ho => ?_)
          simp only [qa, qb, qc, qd] at ho; subst ho
          refine ⟨.pointer (some ⟨b1, 1 + t, none⟩), Or.inl ⟨by kernel_rfl, fun w' hl => Or.inl ?_⟩, ?_⟩
          · (go_simp <;> (intro hbad; omega))
          simp only [Act.put, pa, pb, pc]
          refine ltk 23 (by kernel_rfl) (fun _ _ d _ _ h => by cases d <;> exact h) (fun o ho => ?_)
          simp only [qa, qb, qc, qd] at ho; subst ho
          refine ⟨.int .u8 12, Or.inl ⟨by kernel_rfl, fun w' hl => Or.inl (run_get 5 _ rfl b1 (1 + t) rfl Tryd.underlying5 rfl (.int .u8 12) (((HR1.out.later hl).cell (1 + t) (by omega)).trans (by rw [kAt_board (Nat.zero_le _) ht64, HRk.out])))⟩, ?_⟩
          simp only [Act.put, pa, pb, pc]
          refine ltk 24 (by kernel_rfl) (fun _ _ d _ _ h => by cases d <;> exact h) (fun o ho => ?_)
          simp only [qa, qb, qc, qd] at ho; subst ho
          apply Exists.intro
          refine ⟨Or.inl ⟨by kernel_rfl, fun w' hl => Or.inl ?_⟩, ?_⟩
          · (go_simp; try with_reducible rfl)
          simp only [Act.put, pa, pb, pc]
          refine ltk 25 (by kernel_rfl) (fun _ _ d _ _ h => by cases d <;> exact h) (fun o ho => ?_)
          simp only [qa, qb, qc, qd] at ho; subst ho
          refine ⟨.int .u8 1, Or.inl ⟨by kernel_rfl, fun w' hl => Or.inl (run_get 5 _ rfl b1 78 rfl Tryd.underlying5 rfl (.int .u8 1) (((HR1.out.later hl).cell 78 (by decide)).trans (by rw [HC.out]; rfl)))⟩, ?_⟩
          simp only [Act.put, pa, pb, pc]
          refine ltk 26 (by kernel_rfl) (fun _ _ d _ _ h => by cases d <;> exact h) (fun o ho => ?_)
          simp only [qa, qb, qc, qd] at ho; subst ho
          refine ⟨.int .u8 8, Or.inl ⟨by kernel_rfl, fun w' hl => Or.inl ?_⟩, ?_⟩
          · (go_simp <;> (first | rfl | rw [ew] | rw [ew2] | omega))
          simp only [Act.put, pa, pb, pc]
          refine ltk 27 (by kernel_rfl) (fun _ _ d _ _ h => by cases d <;> exact h) (fun o ho => ?_)
          simp only [qa, qb, qc, qd] at ho; subst ho
          refine ⟨.int .u8 12, Or.inl ⟨by kernel_rfl, fun w' hl => Or.inl ?_⟩, ?_⟩
          · (go_simp <;> (first | rfl | rw [ew] | rw [ew2] | omega))
          simp only [Act.put, pa, pb, pc]
          refine ltk 28 (by kernel_rfl) (fun _ _ d _ _ h => by cases d <;> exact h) (fun o ho => ?_)
          simp only [qa, qb, qc, qd] at ho; subst ho
          apply Exists.intro
          refine ⟨Or.inl ⟨by kernel_rfl, fun w' hl => Or.inl ?_⟩, ?_⟩
          · (go_simp; try with_reducible rfl)
          simp only [Act.put, pa, pb, pc]
          refine ltk 29 (by kernel_rfl) (fun _ _ d _ _ h => by cases d <;> exact h) (fun o ho => ?_)
          simp only [qa, qb, qc, qd] at ho; subst ho
          apply Exists.intro
          refine ⟨Or.inl ⟨by kernel_rfl, fun w' hl => Or.inl ?_⟩, ?_⟩
          · (go_simp; try with_reducible rfl)
          simp only [Act.put, pa, pb, pc]
          refine ltk 30 (by kernel_rfl) (fun _ _ d _ _ h => by cases d <;> exact h) (fun o ho => ?_)
          simp only [qa, qb, qc, qd] at ho; subst ho
          apply Exists.intro
          refine ⟨Or.inl ⟨by kernel_rfl, fun w' hl => Or.inl ?_⟩, ?_⟩
          · (go_simp; try with_reducible rfl)
          simp only [Act.put, pa, pb, pc]
          refine ltk 31 (by kernel_rfl) (fun _ _ d _ _ h => by cases d <;> exact h) (fun o ho => ?_)
          simp only [qa, qb, qc, qd] at ho; subst ho
          apply Exists.intro
          refine ⟨Or.inl ⟨by kernel_rfl, fun w' hl => Or.inl ?_⟩, ?_⟩
          · (go_simp; try with_reducible rfl)
          simp only [Act.put, pa, pb, pc]
          refine ltk 32 (by kernel_rfl) (fun _ _ d _ _ h => by cases d <;> exact h) (fun o ho => ?_)
          simp only [qa, qb, qc, qd] at ho; subst ho
          refine ⟨.int .i8 (f : Int), Or.inl ⟨by kernel_rfl, fun w' hl => Or.inl (run_get 26 _ rfl b5 0 rfl Tryd.underlying26 rfl (.int .i8 (f : Int)) (((HR5.out.later hl).cell 0).trans rfl))⟩, ?_⟩
          simp only [Act.put, pa, pb, pc]
          refine ltk 33 (by kernel_rfl) (fun _ _ d _ _ h => by cases d <;> exact h) (fun o ho => ?_)
          simp only [qa, qb, qc, qd] at ho; subst ho
          refine ⟨.int .i8 7, Or.inl ⟨by kernel_rfl, fun w' hl => Or.inl ?_⟩, ?_⟩
          · (go_simp <;> (first | rfl | rw [ef] | rw [ef2] | omega))
          simp only [Act.put, pa, pb, pc]
          refine ltk 34 (by kernel_rfl) (fun _ _ d _ _ h => by cases d <;> exact h) (fun o ho => ?_)
          simp only [qa, qb, qc, qd] at ho; subst ho
          apply Exists.intro
          refine ⟨Or.inl ⟨by kernel_rfl, fun w' hl => Or.inl ?_⟩, ?_⟩
          · (go_simp; try with_reducible rfl)
          simp only [Act.put, pa, pb, pc]
          refine ltk 35 (by kernel_rfl) (fun _ _ d _ _ h => by cases d <;> exact h) (fun o ho => ?_)
          simp only [qa, qb, qc, qd] at ho; subst ho
          refine ⟨.int .i8 (t : Int), Or.inl ⟨by kernel_rfl, fun w' hl => Or.inl (run_get 26 _ rfl b5 1 rfl Tryd.underlying26 rfl (.int .i8 (t : Int)) (((HR5.out.later hl).cell 1).trans rfl))⟩, ?_⟩
          simp only [Act.put, pa, pb, pc]
          refine ltk 36 (by kernel_rfl) (fun _ _ d _ _ h => by cases d <;> exact h) (fun o ho => ?_)
          simp only [qa, qb, qc, qd] at ho; subst ho
          refine ⟨.int .i8 7, Or.inl ⟨by kernel_rfl, fun w' hl => Or.inl ?_⟩, ?_⟩
          · (go_simp <;> (first | rfl | rw [et] | rw [et2] | omega))
          simp only [Act.put, pa, pb, pc]
          refine ltk 37 (by kernel_rfl) (fun _ _ d _ _ h => by cases d <;> exact h) (fun o ho => ?_)
          simp only [qa, qb, qc, qd] at ho; subst ho
          apply Exists.intro
          refine ⟨Or.inl ⟨by kernel_rfl, fun w' hl => Or.inl ?_⟩, ?_⟩
          · (go_simp; try with_reducible rfl)
          simp only [Act.put, pa, pb, pc]
          refine ltk 38 (by kernel_rfl) (fun _ _ d _ _ h => by cases d <;> exact h) (fun o ho => ?_)
          simp only [qa, qb, qc, qd] at ho; subst ho
          apply Exists.intro
          refine ⟨Or.inl ⟨by kernel_rfl, fun w' hl => Or.inl ?_⟩, ?_⟩
          · (go_simp; try with_reducible rfl)
          simp only [Act.put, pa, pb, pc]
          refine ltk 39 (by kernel_rfl) (fun _ _ d _ _ h => by cases d <;> exact h) (fun o ho => ?_)
          simp only [qa, qb, qc, qd] at ho; subst ho
          apply Exists.intro
          refine ⟨Or.inl ⟨by kernel_rfl, fun w' hl => Or.inl ?_⟩, ?_⟩
          · (go_simp; try with_reducible rfl)
          simp only [Act.put, pa, pb, pc]
          refine ltk 40 (by kernel_rfl) (fun _ _ d _ _ h => by cases d <;> exact h) (fun o ho => ?_)
          simp only [qa, qb, qc, qd] at ho; subst ho
          apply Exists.intro
          refine ⟨Or.inl ⟨by kernel_rfl, fun w' hl => Or.inl ?_⟩, ?_⟩
          · (go_simp; try with_reducible rfl)
          simp only [Act.put, pa, pb, pc]
          refine ltk 41 (by kernel_rfl) (fun _ _ d _ _ h => by cases d <;> exact h) (fun o ho => ?_)
          simp only [qa, qb, qc, qd] at ho; subst ho
          apply Exists.intro
          refine ⟨Or.inl ⟨by kernel_rfl, fun w' hl => Or.inl ?_⟩, ?_⟩
          · (go_simp; try with_reducible rfl)
          simp only [Act.put, pa, pb, pc]
          refine ltk 42 (by kernel_rfl) (fun _ _ d _ _ h => by cases d <;> exact h) (fun o ho => ?_)
          simp only [qa, qb, qc, qd] at ho; subst ho
          apply Exists.intro
          refine ⟨Or.inl ⟨by kernel_rfl, fun w' hl => Or.inl ?_⟩, ?_⟩
          · (go_simp; try with_reducible rfl)
          simp only [Act.put, pa, pb, pc]
          refine ltk 43 (by kernel_rfl) (fun _ _ d _ _ h => by cases d <;> exact h) (fun o ho => ?_)
          simp only [qa, qb, qc, qd] at ho; subst ho
          refine ⟨.int .i8 (f : Int), Or.inl ⟨by kernel_rfl, fun w' hl => Or.inl (run_get 26 _ rfl b5 0 rfl Tryd.underlying26 rfl (.int .i8 (f : Int)) (((HR5.out.later hl).cell 0).trans rfl))⟩, ?_⟩
          simp only [Act.put, pa, pb, pc]
          refine ltk 44 (by kernel_rfl) (fun _ _ d _ _ h => by cases d <;> exact h) (fun o ho => ?_)
          simp only [qa, qb, qc, qd] at ho; subst ho
          refine ⟨.int .i8 7, Or.inl ⟨by kernel_rfl, fun w' hl => Or.inl ?_⟩, ?_⟩
          · (go_simp <;> (first | rfl | rw [ef] | rw [ef2] | omega))
          simp only [Act.put, pa, pb, pc]
          refine ltk 45 (by kernel_rfl) (fun _ _ d _ _ h => by cases d <;> exact h) (fun o ho => ?_)
          simp only [qa, qb, qc, qd] at ho; subst ho
          apply Exists.intro
          refine ⟨Or.inl ⟨by kernel_rfl, fun w' hl => Or.inl ?_⟩, ?_⟩
          · (go_simp; try with_reducible rfl)
          simp only [Act.put, pa, pb, pc]
          refine ltk 46 (by kernel_rfl) (fun _ _ d _ _ h => by cases d <;> exact h) (fun o ho => ?_)
          simp only [qa, qb, qc, qd] at ho; subst ho
          apply Exists.intro
          refine ⟨Or.inl ⟨by kernel_rfl, fun w' hl => Or.inl ?_⟩, ?_⟩
          · (go_simp; try with_reducible rfl)
          simp only [Act.put, pa, pb, pc]
          refine ltk 47 (by kernel_rfl) (fun _ _ d _ _ h => by cases d <;> exact h) (fun o ho => ?_)
          simp only [qa, qb, qc, qd] at ho; subst ho
          apply Exists.intro
          refine ⟨Or.inl ⟨by kernel_rfl, fun w' hl => Or.inl ?_⟩, ?_⟩
          · (go_simp; try with_reducible rfl)
          simp only [Act.put, pa, pb, pc]
          refine ltk 48 (by kernel_rfl) (fun _ _ d _ _ h => by cases d <;> exact h) (fun o ho => ?_)
          simp only [qa, qb, qc, qd] at ho; subst ho
          apply Exists.intro
          refine ⟨Or.inl ⟨by kernel_rfl, fun w' hl => Or.inl ?_⟩, ?_⟩
          · (go_simp; try with_reducible rfl)
          simp only [Act.put, pa, pb, pc]
          refine ltk 49 (by kernel_rfl) (fun _ _ d _ _ h => by cases d <;> exact h) (fun o ho => ?_)
          simp only [qa, qb, qc, qd] at ho; subst ho
          apply Exists.intro
          refine ⟨Or.inl ⟨by kernel_rfl, fun w' hl => Or.inl ?_⟩, ?_⟩
          · (go_simp; try with_reducible rfl)
          simp only [Act.put, pa, pb, pc]
          refine ltk 50 (by kernel_rfl) (fun _ _ d _ _ h => by cases d <;> exact h) (fun o ho => ?_)
          simp only [qa, qb, qc, qd] at ho; subst ho
          apply Exists.intro
          refine ⟨Or.inl ⟨by kernel_rfl, fun w' hl => Or.inl ?_⟩, ?_⟩
          · (go_simp; try with_reducible rfl)
          simp only [Act.put, pa, pb, pc]
          refine ltk 51 (by kernel_rfl) (fun _ _ d _ _ h => by cases d <;> exact h) (fun o ho => ?_)
          simp only [qa, qb, qc, qd] at ho; subst ho
          apply Exists.intro
          refine ⟨Or.inl ⟨by kernel_rfl, fun w' hl => Or.inl ?_⟩, ?_⟩
          · (go_simp; try with_reducible rfl)
          simp only [Act.put, pa, pb, pc]
          refine ltk 52 (by kernel_rfl) (fun _ _ d _ _ h => by cases d <;> exact h) (fun o ho => ?_)
          simp only [qa, qb, qc, qd] at ho; subst ho
          apply Exists.intro
          refine ⟨Or.inl ⟨by kernel_rfl, fun w' hl => Or.inl ?_⟩, ?_⟩
          · (go_simp; try with_reducible rfl)
          simp only [Act.put, pa, pb, pc]
          refine ltk 53 (by kernel_rfl) (fun _ _ d _ _ h => by cases d <;> exact h) (fun o ho => ?_)
          simp only [qa, qb, qc, qd] at ho; subst ho
          apply Exists.intro
          refine ⟨Or.inl ⟨by kernel_rfl, fun w' hl => Or.inl ?_⟩, ?_⟩
          · (go_simp; try with_reducible rfl)
          simp only [Act.put, pa, pb, pc]
          refine ltk 54 (by kernel_rfl) (fun _ _ d _ _ h => by cases d <;> exact h) (fun o ho => ?_)
          simp only [qa, qb, qc, qd] at ho; subst ho
          apply Exists.intro
          refine ⟨Or.inl ⟨by kernel_rfl, fun w' hl => Or.inl ?_⟩, ?_⟩
          · (go_simp; try with_reducible rfl)
          simp only [Act.put, pa, pb, pc]
          refine late_end (by kernel_rfl) (fun wn hl => ?_)
          have HR1 := Lib.hid (HR1.out.later hl); have HR5 := Lib.hid (HR5.out.later hl); have HE := Lib.hid (HE.out.later hl); have HB := Lib.hid (below_on HB.out hl); clear hl
          go_wp2_with (first
            | (guard_target = Go.wpList _ _ _ ((⟨some _, .load _ (.tmp 99), _, _, _, _⟩ : Go.Oper) :: _) _ _; refine step_get rfl 26 _ rfl b5 1 rfl Tryd.underlying26 rfl (.int .i8 (t : Int)) ?_ ?_; exact (HR5.out.cell 1).trans rfl)
            | (guard_target = Go.wpList _ _ _ ((⟨some _, .load _ (.tmp 101), _, _, _, _⟩ : Go.Oper) :: _) _ _; refine step_get rfl 26 _ rfl b5 0 rfl Tryd.underlying26 rfl (.int .i8 (f : Int)) ?_ ?_; exact (HR5.out.cell 0).trans rfl)
            | (guard_target = Go.wpList _ _ _ ((⟨some _, .load _ (.tmp 119), _, _, _, _⟩ : Go.Oper) :: _) _ _; refine step_get rfl 26 _ rfl b5 1 rfl Tryd.underlying26 rfl (.int .i8 (t : Int)) ?_ ?_; exact (HR5.out.cell 1).trans rfl)
            | (guard_target = Go.wpList _ _ _ ((⟨some _, .load _ (.tmp 121), _, _, _, _⟩ : Go.Oper) :: _) _ _; refine step_get rfl 26 _ rfl b5 0 rfl Tryd.underlying26 rfl (.int .i8 (f : Int)) ?_ ?_; exact (HR5.out.cell 0).trans rfl))
          refine late_begin 13 (by kernel_rfl) ?_
          refine ltk 0 (by kernel_rfl) (fun _ _ d _ _ h => by cases d <;> exact h) (fun o ho => ?_)
          simp only [qa, qb, qc, qd] at ho; subst ho
          apply Exists.intro
          refine ⟨Or.inl ⟨by kernel_rfl, fun w' hl => Or.inl ?_⟩, ?_⟩
          · (go_simp; try with_reducible rfl)
          simp only [Act.put, pa, pb, pc]
          refine ltk 1 (by kernel_rfl) (fun _ _ d _ _ h => by cases d <;> exact h) (fun o ho => ?_)
          simp only [qa, qb, qc, qd] at ho; subst ho
          refine ⟨.int .u8 1, Or.inl ⟨by kernel_rfl, fun w' hl => Or.inl (run_get 5 _ rfl b1 78 rfl Tryd.underlying5 rfl (.int .u8 1) (((HR1.out.later hl).cell 78 (by decide)).trans (by rw [HC.out]; rfl)))⟩, ?_⟩
          simp only [Act.put, pa, pb, pc]
          refine ltk 2 (by kernel_rfl) (fun _ _ d _ _ h => by cases d <;> exact h) (fun o ho => ?_)
          simp only [qa, qb, qc, qd] at ho; subst ho
          apply Exists.intro
          refine ⟨Or.inl ⟨by kernel_rfl, fun w' hl => Or.inl ?_⟩, ?_⟩
          · (go_simp; try with_reducible rfl)
          simp only [Act.put, pa, pb, pc]
          refine ltk 3 (by kernel_rfl) (fun _ _ d _ _ h => by cases d <;> exact h) (fun o ho => ?_)
          simp only [qa, qb, qc, qd] at ho; subst ho
          apply Exists.intro
          refine ⟨Or.inl ⟨by kernel_rfl, fun w' hl => Or.inl ?_⟩, ?_⟩
          · (go_simp; try with_reducible rfl)
          simp only [Act.put, pa, pb, pc]
          refine ltk 4 (by kernel_rfl) (fun _ _ d _ _ h => by cases d <;> exact h) (fun o ho => ?_)
          simp only [qa, qb, qc, qd] at ho; subst ho
          apply Exists.intro
          refine ⟨Or.inl ⟨by kernel_rfl, fun w' hl => Or.inl ?_⟩, ?_⟩
          · (go_simp; try with_reducible rfl)
          simp only [Act.put, pa, pb, pc]
          refine ltk 5 (by kernel_rfl) (fun _ _ d _ _ h => by cases d <;> exact h) (fun o ho => ?_)
          simp only [qa, qb, qc, qd] at ho; subst ho
          apply Exists.intro
          refine ⟨Or.inl ⟨by kernel_rfl, fun w' hl => Or.inl ?_⟩, ?_⟩
          · (go_simp; try with_reducible rfl)
          simp only [Act.put, pa, pb, pc]
          refine ltk 6 (by kernel_rfl) (fun _ _ d _ _ h => by cases d <;> exact h) (fun o ho => ?_)
          simp only [qa, qb, qc, qd] at ho; subst ho
          refine ⟨.int .i8 r, Or.inl ⟨by kernel_rfl, fun w' hl => Or.inl (run_get 26 _ rfl b1 (79 + 1 * 2 + 1) rfl Tryd.underlying26 rfl (.int .i8 r) (((HR1.out.later hl).cell (79 + 1 * 2 + 1) (by decide)).trans (by rw [HFl.out]; rfl)))⟩, ?_⟩
          simp only [Act.put, pa, pb, pc]
          refine ltk 7 (by kernel_rfl) (fun _ _ d _ _ h => by cases d <;> exact h) (fun o ho => ?_)
          simp only [qa, qb, qc, qd] at ho; subst ho
          refine ⟨.int .i64 r, Or.inl ⟨by kernel_rfl, fun w' hl => Or.inl ?_⟩, ?_⟩
          · (go_simp <;> (first | rfl | rw [ew] | rw [ew2] | omega))
          simp only [Act.put, pa, pb, pc]
          refine ltk 8 (by kernel_rfl) (fun _ _ d _ _ h => by cases d <;> exact h) (fun o ho => ?_)
          simp only [qa, qb, qc, qd] at ho; subst ho
          apply Exists.intro
          refine ⟨Or.inl ⟨by kernel_rfl, fun w' hl => Or.inl ?_⟩, ?_⟩
          · (go_simp; try with_reducible rfl)
          simp only [Act.put, pa, pb, pc]
          refine ltk 9 (by kernel_rfl) (fun _ _ d _ _ h => by cases d <;> exact h) (fun o ho => ?_)
          simp only [qa, qb, qc, qd] at ho; subst ho
          refine ⟨.int .i8 (t : Int), Or.inl ⟨by kernel_rfl, fun w' hl => Or.inl (run_get 26 _ rfl b5 1 rfl Tryd.underlying26 rfl (.int .i8 (t : Int)) (((HR5.out.later hl).cell 1).trans rfl))⟩, ?_⟩
          simp only [Act.put, pa, pb, pc]
          refine ltk 10 (by kernel_rfl) (fun _ _ d _ _ h => by cases d <;> exact h) (fun o ho => ?_)
          simp only [qa, qb, qc, qd] at ho; subst ho
          refine ⟨.int .i8 r, Or.inl ⟨by kernel_rfl, fun w' hl => Or.inl ?_⟩, ?_⟩
          · (go_simp <;> (first | rfl | rw [em] | rw [em2] | omega))
          simp only [Act.put, pa, pb, pc]
          refine ltk 11 (by kernel_rfl) (fun _ _ d _ _ h => by cases d <;> exact h) (fun o ho => ?_)
          simp only [qa, qb, qc, qd] at ho; subst ho
          refine ⟨.int .i64 r, Or.inl ⟨by kernel_rfl, fun w' hl => Or.inl ?_⟩, ?_⟩
          · (go_simp <;> (first | rfl | rw [ew] | rw [ew2] | omega))
          simp only [Act.put, pa, pb, pc]
          refine ltk 12 (by kernel_rfl) (fun _ _ d _ _ h => by cases d <;> exact h) (fun o ho => ?_)
          simp only [qa, qb, qc, qd] at ho; subst ho
          apply Exists.intro
          refine ⟨Or.inl ⟨by kernel_rfl, fun w' hl => Or.inl ?_⟩, ?_⟩
          · (go_simp; try with_reducible rfl)
          simp only [Act.put, pa, pb, pc]
          refine late_end (by kernel_rfl) (fun wn hl => ?_)
          have HR1 := Lib.hid (HR1.out.later hl); have HR5 := Lib.hid (HR5.out.later hl); have HE := Lib.hid (HE.out.later hl); have HB := Lib.hid (below_on HB.out hl); clear hl
          go_wp2_with fail
          go_roundw
          case rel => exact ⟨i + 1, by have := HLt.out; omega, by go_num, HR1.out, HE.out, HB.out⟩
          case measure => simp [intOf]; have := HLt.out; omega
    · obtain rfl : i = L.length := by omega
      have q1 : decide (L.length ≤ 2) = true := decide_eq_true HLn.out
      have q2 : decide ((L.length : Int) ≤ 2) = true := decide_eq_true (by have := HLn.out; omega)
      go_wp2_with (first
        | (go_at_call 11; refine (cs_awake _ (HT.out.on HB.out)).mono ?_; rintro e w3 ⟨rfl, hb⟩; have HB := Lib.hid (below_on HB.out hb); clear hb))
      go_ret
      exact ⟨rfl, HB.out⟩
end Go.Proofs.YtmlmilmfnioheaaDoor.castleGoes
