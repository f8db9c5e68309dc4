/-
  The walk of DropTurn.
-/
import Derived.Test.YtdjnniohoicppaaDoorDrC
import Derived.Test.YtdjnniohoicppaaDoorDrD
import Derived.WalkKit
import Derived.OpenShut
namespace Go.Proofs.YtdjnniohoicppaaDoor.dropTurn
open Go.RowKit
set_option linter.unusedVariables false
set_option linter.unusedSimpArgs false
theorem sub_u8 {t : Nat} (h : t ≤ 1) : IntKind.u8.wrap (1 - (t : Int)) = ((1 - t : Nat) : Int) := by
  rcases (by omega : t = 0 ∨ t = 1) with rfl | rfl <;> rfl
theorem helC_apart {p : Nat → Int} {t u m k : Nat} (n : Int) (ht : t ≤ 1) (hu : u = 1 - t) (hm : 1 ≤ m ∧ m < 6) (hk : k < 6) : helC p (t : Int) (k : Int) = helC (upd p (66 + u * 6 + m) n) (t : Int) (k : Int) := by
  unfold helC
  rw [pkJ_at, upd_other _ _ _ _ (by omega)]
theorem drR_upd {p : Nat → Int} (h : DrR p) {i : Nat} (h0 : 66 ≤ i) (h1 : i < 78) {n : Int} (hn : 0 ≤ n ∧ n ≤ 255) : DrR (upd p i n) := by
  refine ⟨fun j hj => ?_, ?_, ?_, fun j h2 h3 => ?_⟩
  · rw [upd_other _ _ _ _ (by omega)]; exact h.bd j hj
  · rw [upd_other _ _ _ _ (by omega)]; exact h.var
  · rw [upd_other _ _ _ _ (by omega)]; exact h.turn
  · by_cases e : j = i
    · subst e; rw [upd_same]; exact hn
    · rw [upd_other _ _ _ _ e]; exact h.pk j h2 h3
set_option maxRecDepth 100000 in
set_option maxHeartbeats 4000000 in
theorem walk (p : Nat → Int) (kd n : Int) (w0 : WfP p) (w1 : (Lit.int .u8 kd).wf = true) (w2 : (Lit.int .u8 n).wf = true) (w : World) (hD : TabDb w) (hV : TabVar w) (hKn : TabKn w) : Calls Tryd.prog 8 #[.agg (posA p), .int .u8 kd, .int .u8 n] w fun e w' => e = .returned (.bool true) ∧ Below w.heap.size w w' := by
  have HT := Lib.hid (show DrT w from ⟨hV, hD⟩)
  have HK := Lib.hid hKn
  have HP := Lib.hid (DrR.of w0)
  have hkd := u8_rng w1
  have hn := u8_rng w2
  have ht := HP.out.turn
  clear hD hV hKn w0 w1 w2
  have HB := Lib.hid (Below.refl w.heap.size w)
  cases g1 : decide (1 < p 78)
  · have g1' := of_decide_eq_false g1
    obtain ⟨t, htu⟩ := Int.eq_ofNat_of_zero_le ht.1
    have htu : p 78 = (t : Int) := htu
    have ht1 : t ≤ 1 := by omega
    have g1t : decide (1 < (t : Int)) = false := decide_eq_false (by omega)
    have g1n : decide (1 < t) = false := decide_eq_false (by omega)
    obtain ⟨u, hu⟩ : ∃ u, 1 - t = u := ⟨_, rfl⟩
    have hs := sub_u8 ht1
    rw [hu] at hs
    obtain ⟨r, hr⟩ : ∃ r : Nat, kd % 5 = (r : Int) := Int.eq_ofNat_of_zero_le (by omega)
    obtain ⟨m, hm⟩ : ∃ m, 1 + r = m := ⟨_, rfl⟩
    have hm6 : 1 ≤ m ∧ m < 6 := by omega
    have hmi : 1 + kd % 5 = (m : Int) := by omega
    have HI := Lib.hid (show 66 + u * 6 + m < 78 by omega)
    obtain ⟨q, hq⟩ : ∃ q, upd p (66 + u * 6 + m) n = q := ⟨_, rfl⟩
    have HQ := Lib.hid (show DrR q by rw [← hq]; exact drR_upd HP.out (by omega) (by omega) hn)
    obtain ⟨L, hL0⟩ : ∃ L, drL p = L := ⟨_, rfl⟩
    have HL := Lib.hid hL0
    have HLq := Lib.hid (show drL q = L by
      rw [← hL0, ← hq]
      exact (drL_same (fun i hi => (upd_other _ _ _ _ (by omega)).symm) (upd_other _ _ _ _ (by omega)).symm (fun k hk => by rw [htu]; exact helC_apart n ht1 hu.symm hm6 hk)).symm)
    have HV := Lib.hid (show ∀ (i : Nat) (m : Mv), L[i]? = some m → FitV m by rw [← hL0]; exact fun i m h => drL_fit (List.mem_of_getElem? h))
    have HLn := Lib.hid (show L.length ≤ 384 by rw [← hL0]; exact drL_len p)
    have HTu := Lib.hid htu
    have HQe := Lib.hid hq
    have hu1 : u ≤ 1 := by omega
    clear htu hL0 hq hm hr ht g1' hn ht1 hu
    go_enter Tryd.func8, Tryd.ntmps8
    go_wp2_with (first
      | (guard_target = Go.wpList _ _ _ ((⟨some 3, .box _ _, _, _, _, _⟩ : Go.Oper) :: _) _ _; refine step_box rfl _ rfl p rfl ?_; intro b3 w1 N R; have HG3 := Lib.hid (show w.heap.size ≤ b3 by have := HB.out.size; have := N.at_; omega); have HB := Lib.hid (below_on HB.out N.below); have HR3 := Lib.hid R; clear N R)
      | (guard_target = Go.wpList _ _ _ ((⟨some _, .load _ (.tmp 11), _, _, _, _⟩ : Go.Oper) :: _) _ _; refine step_get rfl 5 _ rfl b3 78 rfl Tryd.underlying5 rfl (.int .u8 (p 78)) ?_ ?_; exact HR3.out.cell 78 (by decide))
      | (guard_target = Go.wpList _ _ _ ((⟨some _, .load _ (.tmp 22), _, _, _, _⟩ : Go.Oper) :: _) _ _; refine step_get rfl 5 _ rfl b3 78 rfl Tryd.underlying5 rfl (.int .u8 ((t : Nat) : Int)) ?_ ?_; exact (HR3.out.cell 78 (by decide)).trans (by rw [HTu.out]; rfl))
      | (guard_target = Go.wpList _ _ _ ((⟨some _, .load _ (.tmp 3), _, _, _, _⟩ : Go.Oper) :: _) _ _; refine step_load rfl _ rfl b3 rfl p HR3.out ?_)
      | (guard_target = Go.wpList _ _ _ ((⟨some 7, .alloc _, _, _, _, _⟩ : Go.Oper) :: _) _ _; refine step_alloc (op := ⟨some 7, _, _, _, _, _⟩) rfl rfl ?_; intro b7 wn N R; have HG7 := Lib.hid (show w.heap.size ≤ b7 by have := HB.out.size; have := N.at_; omega); have HD37 := Lib.hid (show b3 ≠ b7 by have := HR3.out.lt; have := N.at_; omega); have HR3 := Lib.hid (HR3.out.later N.below); have HR7 := Lib.hid R; have HB := Lib.hid (below_on HB.out N.below); clear N R)
      | (guard_target = Go.wpList _ _ _ ((⟨none, .store _ (.tmp 7) _, _, _, _, _⟩ : Go.Oper) :: _) _ _; refine step_store (op := ⟨none, .store _ (.tmp 7) _, _, _, _, _⟩) rfl _ _ rfl b7 rfl zeroP p rfl HR7.out ?_; intro wn U R; have HR3 := Lib.hid (HR3.out.apart U HD37.out); have HR7 := Lib.hid R; have HB := Lib.hid (HB.out.trans (U.below HG7.out)); clear U R)
      | (guard_target = Go.wpList _ _ _ ((⟨none, .store _ (.tmp 31) _, _, _, _, _⟩ : Go.Oper) :: _) _ _; refine step_cell (op := ⟨none, .store _ (.tmp 31) _, _, _, _, _⟩) rfl 5 _ _ rfl b7 (66 + u * 6 + m) rfl .u8 n rfl p HR7.out (by have := HI.out; omega) (kAt_pk (by omega) HI.out) size5 ?_; intro wn U R; have HR3 := Lib.hid (HR3.out.apart U HD37.out); have HR7 := Lib.hid R; have HB := Lib.hid (HB.out.trans (U.below HG7.out)); clear U R))
    rw [HQe.out] at HR7
    refine late_begin 6 (by kernel_rfl) ?_
    refine ltk 0 (by kernel_rfl) (fun _ _ d _ _ h => by cases d <;> exact h) (fun o ho => ?_)
    simp only [qa, qb, qc, qd] at ho; subst ho
    refine ⟨_, Or.inl ⟨by kernel_rfl, fun w' hl => Or.inl (run_load _ rfl _ rfl (p) (HR3.out.later hl))⟩, ?_⟩
    simp only [Act.put, pa, pb, pc]
    refine ltk 2 (by kernel_rfl) (fun _ _ d _ _ h => by cases d <;> exact h) (fun o ho => ?_)
    simp only [qa, qb, qc, qd] at ho; subst ho
    refine ⟨_, Or.inl ⟨by kernel_rfl, fun w' hl => Or.inl (run_load _ rfl _ rfl (q) (HR7.out.later hl))⟩, ?_⟩
    simp only [Act.put, pa, pb, pc]
    refine late_one 1 (by kernel_rfl) (by kernel_rfl) (fun o ho => ?_)
    simp only [qa, qb, qc, qd] at ho; subst ho
    refine ⟨by kernel_rfl, fun wn hl K hK => ?_⟩
    have HR3 := Lib.hid (HR3.out.later hl); have HR7 := Lib.hid (HR7.out.later hl); have HB := Lib.hid (below_on HB.out hl); clear hl
    refine wp_enter _ _ (by go_simp; exact ⟨rfl, rfl⟩) ?_
    refine (list_dr p _ HP.out (HT.out.on HB.out)).mono ?_; rintro e wm ⟨v, rfl, hv, hb⟩; refine ⟨_, rfl, ?_⟩
    rw [HL.out] at hv; obtain ⟨a6, c6, rfl, hE⟩ := mvs_of hv; have HE6n := Lib.hid hE; clear hv hE
    refine hK.out _ _ hb ?_
    have HR3 := Lib.hid (HR3.out.later hb); have HR7 := Lib.hid (HR7.out.later hb); have HB := Lib.hid (below_on HB.out hb); clear hb
    have HE6 := HE6n; clear HE6n
    clear hK K
    simp only [Act.put, pa, pb, pc]
    refine late_one 3 (by kernel_rfl) (by kernel_rfl) (fun o ho => ?_)
    simp only [qa, qb, qc, qd] at ho; subst ho
    refine ⟨by kernel_rfl, fun wn hl K hK => ?_⟩
    have HR3 := Lib.hid (HR3.out.later hl); have HR7 := Lib.hid (HR7.out.later hl); have HE6 := Lib.hid (HE6.out.later hl); have HB := Lib.hid (below_on HB.out hl); clear hl
    refine wp_enter _ _ (by go_simp; exact ⟨rfl, rfl⟩) ?_
    refine (list_dr q _ HQ.out (HT.out.on HB.out)).mono ?_; rintro e wm ⟨v, rfl, hv, hb⟩; refine ⟨_, rfl, ?_⟩
    rw [HLq.out] at hv; obtain ⟨a7, c7, rfl, hE⟩ := mvs_of hv; have HE7n := Lib.hid hE; clear hv hE
    refine hK.out _ _ hb ?_
    have HR3 := Lib.hid (HR3.out.later hb); have HR7 := Lib.hid (HR7.out.later hb); have HE6 := Lib.hid (HE6.out.later hb); have HB := Lib.hid (below_on HB.out hb); clear hb
    have HE7 := HE7n; clear HE7n
    clear hK K
    simp only [Act.put, pa, pb, pc]
    refine ltk 4 (by kernel_rfl) (fun _ _ d _ _ h => by cases d <;> exact h) (fun o ho => ?_)
    simp only [qa, qb, qc, qd] at ho; subst ho
    apply Exists.intro
    refine ⟨Or.inl ⟨by kernel_rfl, fun w' hl => Or.inl ?_⟩, ?_⟩
    · (go_simp; try with_reducible rfl)
    simp only [Act.put, pa, pb, pc]
    refine ltk 5 (by kernel_rfl) (fun _ _ d _ _ h => by cases d <;> exact h) (fun o ho => ?_)
    simp only [qa, qb, qc, qd] at ho; subst ho
    apply Exists.intro
    refine ⟨Or.inl ⟨by kernel_rfl, fun w' hl => Or.inl ?_⟩, ?_⟩
    · (go_simp; try with_reducible rfl)
    simp only [Act.put, pa, pb, pc]
    refine late_end (by kernel_rfl) (fun wn hl => ?_)
    have HR3 := Lib.hid (HR3.out.later hl); have HR7 := Lib.hid (HR7.out.later hl); have HE6 := Lib.hid (HE6.out.later hl); have HE7 := Lib.hid (HE7.out.later hl); have HB := Lib.hid (below_on HB.out hl); clear hl
    go_wp2_with fail
    go_loopw [10] (fun i wr => ∃ k : Nat, k ≤ L.length ∧ i = .int .i64 (k : Int) ∧ Mvs L a6 wr ∧ Mvs L a7 wr ∧ Below w.heap.size w wr) (fun i _ => L.length - (intOf i).toNat)
    case atStart => exact ⟨0, by omega, rfl, HE6.out, HE7.out, HB.out⟩
    case round =>
      clear HE6 HE7 HB HR3 HR7
      obtain ⟨k, hk, rfl, he1, he2, hb⟩ := hrel
      have HE6 := Lib.hid he1
      have HE7 := Lib.hid he2
      have HB := Lib.hid hb
      clear he1 he2 hb
      by_cases hlt : k < L.length
      · obtain ⟨m, hm⟩ : ∃ m, L[k]? = some m := ⟨_, List.getElem?_eq_getElem hlt⟩
        obtain ⟨g6, rfl, _⟩ := HE6.out.at hm
        obtain ⟨g7, rfl, _⟩ := HE7.out.at hm
        have HX := Lib.hid hm
        have HVm := Lib.hid (HV.out k m hm)
        have hw1 : (k : Int) < 1000000 := by have := HLn.out; omega
        clear hm
        go_wp2_with fail
        refine late_begin 9 (by kernel_rfl) ?_
        refine ltk 0 (by kernel_rfl) (fun _ _ d _ _ h => by cases d <;> exact h) (fun o ho => ?_)
        simp only [qa, qb, qc, qd] at ho; subst ho
        apply Exists.intro
        refine ⟨Or.inl ⟨by kernel_rfl, fun w' hl => Or.inl ?_⟩, ?_⟩
        · (go_simp; try with_reducible rfl)
        simp only [Act.put, pa, pb, pc]
        refine ltk 1 (by kernel_rfl) (fun _ _ d _ _ h => by cases d <;> exact h) (fun o ho => ?_)
        simp only [qa, qb, qc, qd] at ho; subst ho
        apply Exists.intro
        refine ⟨Or.inl ⟨by kernel_rfl, fun w' hl => Or.inl ?_⟩, ?_⟩
        · (go_simp; try with_reducible rfl)
        simp only [Act.put, pa, pb, pc]
        refine ltk 2 (by kernel_rfl) (fun _ _ d _ _ h => by cases d <;> exact h) (fun o ho => ?_)
        simp only [qa, qb, qc, qd] at ho; subst ho
        refine ⟨.pointer (some ⟨g6, k * 5, none⟩), Or.inl ⟨by kernel_rfl, fun w' hl => Or.inl ?_⟩, ?_⟩
        · (go_simp <;> (intro hbad; omega))
        simp only [Act.put, pa, pb, pc]
        refine ltk 3 (by kernel_rfl) (fun _ _ d _ _ h => by cases d <;> exact h) (fun o ho => ?_)
        simp only [qa, qb, qc, qd] at ho; subst ho
        refine ⟨.agg (mvA m), Or.inl ⟨by kernel_rfl, fun w' hl => Or.inl (run_mvK _ rfl g6 k _ rfl (by first | omega | (simp; omega)) m ((HE6.out.later hl).get HX.out))⟩, ?_⟩
        simp only [Act.put, pa, pb, pc]
        refine ltk 4 (by kernel_rfl) (fun _ _ d _ _ h => by cases d <;> exact h) (fun o ho => ?_)
        simp only [qa, qb, qc, qd] at ho; subst ho
        apply Exists.intro
        refine ⟨Or.inl ⟨by kernel_rfl, fun w' hl => Or.inl ?_⟩, ?_⟩
        · (go_simp; try with_reducible rfl)
        simp only [Act.put, pa, pb, pc]
        refine ltk 5 (by kernel_rfl) (fun _ _ d _ _ h => by cases d <;> exact h) (fun o ho => ?_)
        simp only [qa, qb, qc, qd] at ho; subst ho
        apply Exists.intro
        refine ⟨Or.inl ⟨by kernel_rfl, fun w' hl => Or.inl ?_⟩, ?_⟩
        · (go_simp; try with_reducible rfl)
        simp only [Act.put, pa, pb, pc]
        refine ltk 6 (by kernel_rfl) (fun _ _ d _ _ h => by cases d <;> exact h) (fun o ho => ?_)
        simp only [qa, qb, qc, qd] at ho; subst ho
        refine ⟨.pointer (some ⟨g7, k * 5, none⟩), Or.inl ⟨by kernel_rfl, fun w' hl => Or.inl ?_⟩, ?_⟩
        · (go_simp <;> (intro hbad; omega))
        simp only [Act.put, pa, pb, pc]
        refine ltk 7 (by kernel_rfl) (fun _ _ d _ _ h => by cases d <;> exact h) (fun o ho => ?_)
        simp only [qa, qb, qc, qd] at ho; subst ho
        refine ⟨.agg (mvA m), Or.inl ⟨by kernel_rfl, fun w' hl => Or.inl (run_mvK _ rfl g7 k _ rfl (by first | omega | (simp; omega)) m ((HE7.out.later hl).get HX.out))⟩, ?_⟩
        simp only [Act.put, pa, pb, pc]
        refine ltk 8 (by kernel_rfl) (fun _ _ d _ _ h => by cases d <;> exact h) (fun o ho => ?_)
        simp only [qa, qb, qc, qd] at ho; subst ho
        refine ⟨.bool false, Or.inl ⟨by kernel_rfl, fun w' hl => Or.inl (run_mvN _ _ rfl m m rfl rfl HVm.out HVm.out true (mvE_true.2 rfl))⟩, ?_⟩
        simp only [Act.put, pa, pb, pc]
        refine late_end (by kernel_rfl) (fun wn hl => ?_)
        have HE6 := Lib.hid (HE6.out.later hl); have HE7 := Lib.hid (HE7.out.later hl); have HB := Lib.hid (below_on HB.out hl); clear hl
        go_wp2_with fail
        go_roundw
        case rel => exact ⟨k + 1, by omega, by go_num, HE6.out, HE7.out, HB.out⟩
        case measure => simp [intOf]; omega
      · obtain rfl : k = L.length := by omega
        go_wp2_with (first
          | (go_at_call 12; refine (dr_awake _ (HT.out.on HB.out) (HK.out.on HB.out)).mono ?_; rintro e w6 ⟨rfl, hb⟩; have HB := Lib.hid (below_on HB.out hb); clear hb))
        go_ret
        exact ⟨rfl, HB.out⟩
  · have g1' := of_decide_eq_true g1
    have HL := Lib.hid (drL_none (p := p) (Or.inl g1'))
    clear g1' ht hkd hn
    go_enter Tryd.func8, Tryd.ntmps8
    go_wp2_with (first
      | (guard_target = Go.wpList _ _ _ ((⟨some 3, .box _ _, _, _, _, _⟩ : Go.Oper) :: _) _ _; refine step_box rfl _ rfl p rfl ?_; intro b3 w1 N R; have HG3 := Lib.hid (show w.heap.size ≤ b3 by have := HB.out.size; have := N.at_; omega); have HB := Lib.hid (below_on HB.out N.below); have HR3 := Lib.hid R; clear N R)
      | (guard_target = Go.wpList _ _ _ ((⟨some _, .load _ (.tmp 11), _, _, _, _⟩ : Go.Oper) :: _) _ _; refine step_get rfl 5 _ rfl b3 78 rfl Tryd.underlying5 rfl (.int .u8 (p 78)) ?_ ?_; exact HR3.out.cell 78 (by decide))
      | (guard_target = Go.wpList _ _ _ ((⟨some _, .load _ (.tmp 3), _, _, _, _⟩ : Go.Oper) :: _) _ _; refine step_load rfl _ rfl b3 rfl p HR3.out ?_)
      | (go_at_call 10; refine (list_dr p _ HP.out (HT.out.on HB.out)).mono ?_; rintro e w5 ⟨v, rfl, hv, hb⟩; rw [HL.out] at hv; obtain ⟨a5, c5, rfl, _⟩ := mvs_of hv; have HB := Lib.hid (below_on HB.out hb); clear hv hb)
      | (go_at_call 12; refine (dr_awake _ (HT.out.on HB.out) (HK.out.on HB.out)).mono ?_; rintro e w6 ⟨rfl, hb⟩; have HB := Lib.hid (below_on HB.out hb); clear hb))
    go_ret
    exact ⟨rfl, HB.out⟩
end Go.Proofs.YtdjnniohoicppaaDoor.dropTurn
