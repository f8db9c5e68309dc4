/-
  The document's own Kind, Held, Men, List, Same, for layer 15.
-/
import Derived.Test.YtdjnniohoicppaaDoorDrB
namespace Go.Proofs.YtdjnniohoicppaaDoor
open Go.RowKit Go.Shelf
set_option linter.unusedVariables false
set_option linter.unusedSimpArgs false
attribute [local go_sem] Oper.semAt_some

theorem ret_drI {k : IntKind} {a b : Int} (h : a = b) : Ending.returned (Value.int k a) = Ending.returned (Value.int k b) := by rw [h]
theorem rkind_dr (x : Int) (w : World) (h0 : 0 ≤ x) (h1 : x ≤ 255) : Calls Tryd.prog 24 #[.int .u8 x] w (fun e w' => e = .returned (.int .u8 (kndZ x)) ∧ w = w') := by
  by_cases e1 : 15 < x
  · have HS := Lib.hid (show kndZ x = 0 from kndZ_no (pcB_false.2 (by omega)))
    have g1 : decide (15 < x) = true := decide_eq_true e1
    clear e1
    go_enter Tryd.func24, Tryd.ntmps24
    go_wp2_with fail
    go_ret
    exact ⟨ret_drI HS.out.symm, rfl⟩
  · have g1 : decide (15 < x) = false := decide_eq_false e1
    by_cases e2 : x % 8 < 1
    · have HS := Lib.hid (show kndZ x = 0 from kndZ_no (pcB_false.2 (by omega)))
      have g2 : decide (x % 8 < 1) = true := decide_eq_true e2
      clear e1 e2
      go_enter Tryd.func24, Tryd.ntmps24
      go_wp2_with fail
      go_ret
      exact ⟨ret_drI HS.out.symm, rfl⟩
    · have g2 : decide (x % 8 < 1) = false := decide_eq_false e2
      by_cases e3 : 6 < x % 8
      · have HS := Lib.hid (show kndZ x = 0 from kndZ_no (pcB_false.2 (by omega)))
        have g3 : decide (6 < x % 8) = true := decide_eq_true e3
        clear e1 e2 e3
        go_enter Tryd.func24, Tryd.ntmps24
        go_wp2_with fail
        go_ret
        exact ⟨ret_drI HS.out.symm, rfl⟩
      · have HS := Lib.hid (show kndZ x = x % 8 from kndZ_yes (pcB_true.2 (by omega)))
        have g3 : decide (6 < x % 8) = false := decide_eq_false e3
        clear e1 e2 e3
        go_enter Tryd.func24, Tryd.ntmps24
        go_wp2_with fail
        go_ret
        exact ⟨ret_int (by rw [HS.out]), rfl⟩
set_option maxRecDepth 100000 in
set_option maxHeartbeats 1000000 in
theorem same_dr (L : List Mv) (a1 a2 : Option Addr) (c1 c2 : Nat) (w : World) (hn : L.length ≤ 1000000) (hv : ∀ (i : Nat) (m : Mv), L[i]? = some m → FitV m) (h1 : Mvs L a1 w) (h2 : Mvs L a2 w) : Calls Tryd.prog 9 #[.slice a1 L.length c1, .slice a2 L.length c2] w (BoL true w) := by
  have HV := Lib.hid hv
  have HE1 := Lib.hid h1
  have HE2 := Lib.hid h2
  have HN := Lib.hid hn
  clear hv h1 h2 hn
  have HB := Lib.hid (Below.refl w.heap.size w)
  go_enter Tryd.func9, Tryd.ntmps9
  go_wp2_with fail
  go_loopw [5] (fun i wr => ∃ k : Nat, k ≤ L.length ∧ i = .int .i64 (k : Int) ∧ Mvs L a1 wr ∧ Mvs L a2 wr ∧ Below w.heap.size w wr) (fun i _ => L.length - (intOf i).toNat)
  case atStart => exact ⟨0, by omega, rfl, HE1.out, HE2.out, HB.out⟩
  case round =>
    clear HE1 HE2 HB
    obtain ⟨k, hk, rfl, he1, he2, hb⟩ := hrel
    have HE1 := Lib.hid he1
    have HE2 := Lib.hid he2
    have HB := Lib.hid hb
    clear he1 he2 hb
    by_cases hlt : k < L.length
    · obtain ⟨m, hm⟩ : ∃ m, L[k]? = some m := ⟨_, List.getElem?_eq_getElem hlt⟩
      obtain ⟨g1, rfl, _⟩ := HE1.out.at hm
      obtain ⟨g2, rfl, _⟩ := HE2.out.at hm
      have HX := Lib.hid hm
      have HVm := Lib.hid (HV.out k m hm)
      have hw1 : (k : Int) < 1000000 := by have := HN.out; omega
      clear hm
      go_wp2_with fail
      refine late_begin 9 (by kernel_rfl) ?_
      refine ltk 0 (by kernel_rfl) (fun _ _ d _ _ h => by cases d <;> exact h) (fun o ho => ?_)
      simp only [qa, qb, qc, qd] at ho; subst ho
      apply Exists.intro
      refine ⟨Or.inl ⟨by kernel_rfl, fun w' hl => Or.inl ?_⟩, ?_⟩
      · (go_simp; try with_reducible rfl)
      simp only [Act.put, pa, pb, pc]
      refine ltk 1 (by kernel_rfl) (fun _ _ d _ _ h => by cases d <;> exact h) (fun o ho => ?_)
      simp only [qa, qb, qc, qd] at ho; subst ho
      apply Exists.intro
      refine ⟨Or.inl ⟨by kernel_rfl, fun w' hl => Or.inl ?_⟩, ?_⟩
      · (go_simp; try with_reducible rfl)
      simp only [Act.put, pa, pb, pc]
      refine ltk 2 (by kernel_rfl) (fun _ _ d _ _ h => by cases d <;> exact h) (fun o ho => ?_)
      simp only [qa, qb, qc, qd] at ho; subst ho
      refine ⟨.pointer (some ⟨g1, k * 5, none⟩), Or.inl ⟨by kernel_rfl, fun w' hl => Or.inl ?_⟩, ?_⟩
      · (go_simp <;> (intro hbad; omega))
      simp only [Act.put, pa, pb, pc]
      refine ltk 3 (by kernel_rfl) (fun _ _ d _ _ h => by cases d <;> exact h) (fun o ho => ?_)
      simp only [qa, qb, qc, qd] at ho; subst ho
      refine ⟨.agg (mvA m), Or.inl ⟨by kernel_rfl, fun w' hl => Or.inl (run_mvK _ rfl g1 k _ rfl (by first | omega | (simp; omega)) m ((HE1.out.later hl).get HX.out))⟩, ?_⟩
      simp only [Act.put, pa, pb, pc]
      refine ltk 4 (by kernel_rfl) (fun _ _ d _ _ h => by cases d <;> exact h) (fun o ho => ?_)
      simp only [qa, qb, qc, qd] at ho; subst ho
      apply Exists.intro
      refine ⟨Or.inl ⟨by kernel_rfl, fun w' hl => Or.inl ?_⟩, ?_⟩
      · (go_simp; try with_reducible rfl)
      simp only [Act.put, pa, pb, pc]
      refine ltk 5 (by kernel_rfl) (fun _ _ d _ _ h => by cases d <;> exact h) (fun o ho => ?_)
      simp only [qa, qb, qc, qd] at ho; subst ho
      apply Exists.intro
      refine ⟨Or.inl ⟨by kernel_rfl, fun w' hl => Or.inl ?_⟩, ?_⟩
      · (go_simp; try with_reducible rfl)
      simp only [Act.put, pa, pb, pc]
      refine ltk 6 (by kernel_rfl) (fun _ _ d _ _ h => by cases d <;> exact h) (fun o ho => ?_)
      simp only [qa, qb, qc, qd] at ho; subst ho
      refine ⟨.pointer (some ⟨g2, k * 5, none⟩), Or.inl ⟨by kernel_rfl, fun w' hl => Or.inl ?_⟩, ?_⟩
      · (go_simp <;> (intro hbad; omega))
      simp only [Act.put, pa, pb, pc]
      refine ltk 7 (by kernel_rfl) (fun _ _ d _ _ h => by cases d <;> exact h) (fun o ho => ?_)
      simp only [qa, qb, qc, qd] at ho; subst ho
      refine ⟨.agg (mvA m), Or.inl ⟨by kernel_rfl, fun w' hl => Or.inl (run_mvK _ rfl g2 k _ rfl (by first | omega | (simp; omega)) m ((HE2.out.later hl).get HX.out))⟩, ?_⟩
      simp only [Act.put, pa, pb, pc]
      refine ltk 8 (by kernel_rfl) (fun _ _ d _ _ h => by cases d <;> exact h) (fun o ho => ?_)
      simp only [qa, qb, qc, qd] at ho; subst ho
      refine ⟨.bool false, Or.inl ⟨by kernel_rfl, fun w' hl => Or.inl (run_mvN _ _ rfl m m rfl rfl HVm.out HVm.out true (mvE_true.2 rfl))⟩, ?_⟩
      simp only [Act.put, pa, pb, pc]
      refine late_end (by kernel_rfl) (fun wn hl => ?_)
      have HE1 := Lib.hid (HE1.out.later hl); have HE2 := Lib.hid (HE2.out.later hl); have HB := Lib.hid (below_on HB.out hl); clear hl
      go_wp2_with fail
      go_roundw
      case rel => exact ⟨k + 1, by omega, by go_num, HE1.out, HE2.out, HB.out⟩
      case measure => simp [intOf]; omega
    · obtain rfl : k = L.length := by omega
      go_wp2_with fail
      go_ret
      exact ⟨rfl, HB.out⟩
set_option maxRecDepth 100000 in
set_option maxHeartbeats 1000000 in
theorem rheld_no (p : Nat → Int) (c : Int) (w : World) (h : 1 < c) : Calls Tryd.prog 14 #[.agg (posA p), .int .u8 c] w (IntL (helS p c) w) := by
  have HS := Lib.hid (show helS p c = 0 from helT_no h 6)
  have g : decide (c < 2) = false := decide_eq_false (by omega)
  have HB := Lib.hid (Below.refl w.heap.size w)
  clear h
  go_enter Tryd.func14, Tryd.ntmps14
  go_wp2_with (first
      | (guard_target = Go.wpList _ _ _ ((⟨some 2, .box _ _, _, _, _, _⟩ : Go.Oper) :: _) _ _; refine step_box rfl _ rfl p rfl ?_; intro b2 w1 N R; have HG2 := Lib.hid (show w.heap.size ≤ b2 by have := HB.out.size; have := N.at_; omega); have HB := Lib.hid (below_on HB.out N.below); have HR2 := Lib.hid R; clear N R))
  go_loopw [5, 6] (fun n i wr => i = .int .i64 1 ∧ n = .int .i64 0 ∧ Below w.heap.size w wr) (fun _ _ _ => 0)
  case atStart => exact ⟨rfl, rfl, HB.out⟩
  case round =>
    obtain ⟨rfl, rfl, hb⟩ := hrel
    go_wp2_with fail
    go_ret
    exact ⟨by rw [HS.out]; rfl, hb⟩
set_option maxRecDepth 100000 in
set_option maxHeartbeats 1000000 in
theorem rheld_yes (p : Nat → Int) (c : Nat) (w : World) (hc : c ≤ 1) (hp : DrR p) : Calls Tryd.prog 14 #[.agg (posA p), .int .u8 (c : Int)] w (IntL (helS p (c : Int)) w) := by
  have HP := Lib.hid hp
  have g : decide (c < 2) = true := decide_eq_true (by omega)
  have g' : decide ((c : Int) < 2) = true := decide_eq_true (by omega)
  have HB := Lib.hid (Below.refl w.heap.size w)
  clear hp
  go_enter Tryd.func14, Tryd.ntmps14
  go_wp2_with (first
      | (guard_target = Go.wpList _ _ _ ((⟨some 2, .box _ _, _, _, _, _⟩ : Go.Oper) :: _) _ _; refine step_box rfl _ rfl p rfl ?_; intro b2 w1 N R; have HG2 := Lib.hid (show w.heap.size ≤ b2 by have := HB.out.size; have := N.at_; omega); have HB := Lib.hid (below_on HB.out N.below); have HR2 := Lib.hid R; clear N R))
  go_loopw [5, 6] (fun n i wr => ∃ k : Nat, 1 ≤ k ∧ k ≤ 6 ∧ i = .int .i64 (k : Int) ∧ n = .int .i64 (helT p (c : Int) k) ∧ Row wr b2 p ∧ Below w.heap.size w wr) (fun _ i _ => 6 - (intOf i).toNat)
  case atStart => exact ⟨1, by omega, by omega, rfl, by rw [helT_1], HR2.out, HB.out⟩
  case round =>
    clear HR2 HB
    obtain ⟨k, hk1, hk, rfl, rfl, hr2, hb⟩ := hrel
    have HR2 := Lib.hid hr2
    have HB := Lib.hid hb
    clear hr2 hb
    by_cases hlt : k < 6
    · have gk : decide (k ≤ 5) = true := decide_eq_true (by omega)
      have gk2 : decide ((k : Int) ≤ 5) = true := decide_eq_true (by omega)
      have hn := helT_rng HP.out (c := (c : Int)) (by omega) k
      have hh := helC_rng HP.out (c := (c : Int)) (by omega) (k := (k : Int))
      have HN := Lib.hid (show helT p (c : Int) (k + 1) = helT p (c : Int) k + helC p (c : Int) (k : Int) from rfl)
      have hv : helC p (c : Int) (k : Int) = p (66 + c * 6 + k) := by rw [helC_yes (hasP_true.2 (by omega)), pkJ_at]
      obtain ⟨x, hx⟩ : ∃ x, helT p (c : Int) k = x := ⟨_, rfl⟩
      obtain ⟨y, hy⟩ : ∃ y, p (66 + c * 6 + k) = y := ⟨_, rfl⟩
      rw [hv, hy] at hh HN
      rw [hx] at hn HN
      have HY := Lib.hid hy
      have HK := Lib.hid (show 66 + c * 6 + k < 78 by omega)
      rw [hx]
      clear hx hy hv
      go_wp2_with (first
      | (guard_target = Go.wpList _ _ _ ((⟨some _, .load _ (.tmp 20), _, _, _, _⟩ : Go.Oper) :: _) _ _; refine step_get rfl 5 _ rfl b2 (66 + c * 6 + k) rfl Tryd.underlying5 rfl (.int .u8 y) ?_ ?_; exact (HR2.out.cell (66 + c * 6 + k) (by have := HK.out; omega)).trans (by rw [kAt_pk (by omega) (by have := HK.out; omega), HY.out])))
      go_roundw
      case rel => exact ⟨k + 1, by omega, by omega, by go_num, by rw [HN.out], HR2.out, HB.out⟩
      case measure => simp [intOf]; omega
    · obtain rfl : k = 6 := by omega
      go_wp2_with fail
      go_ret
      exact ⟨rfl, HB.out⟩
theorem rheld_any (p : Nat → Int) (c : Int) (w : World) (hc : 0 ≤ c) (hp : DrR p) : Calls Tryd.prog 14 #[.agg (posA p), .int .u8 c] w (IntL (helS p c) w) := by
  by_cases h : 1 < c
  · exact rheld_no p c w h
  · obtain ⟨n, rfl⟩ := Int.eq_ofNat_of_zero_le hc
    exact rheld_yes p n w (by omega) hp
set_option maxRecDepth 100000 in
set_option maxHeartbeats 1000000 in
theorem rmen_any (p : Nat → Int) (w : World) (hp : DrR p) : Calls Tryd.prog 16 #[.agg (posA p)] w (IntL (menZ p) w) := by
  have HP := Lib.hid hp
  have h0 := helS_rng hp (c := 0) (by decide)
  have h1 := helS_rng hp (c := 1) (by decide)
  clear hp
  have HB := Lib.hid (Below.refl w.heap.size w)
  go_enter Tryd.func16, Tryd.ntmps16
  go_wp2_with (first
      | (guard_target = Go.wpList _ _ _ ((⟨some 1, .box _ _, _, _, _, _⟩ : Go.Oper) :: _) _ _; refine step_box rfl _ rfl p rfl ?_; intro b1 w1 N R; have HG1 := Lib.hid (show w.heap.size ≤ b1 by have := HB.out.size; have := N.at_; omega); have HB := Lib.hid (below_on HB.out N.below); have HR1 := Lib.hid R; clear N R))
  refine late_begin 6 (by kernel_rfl) ?_
  refine ltk 0 (by kernel_rfl) (fun _ _ d _ _ h => by cases d <;> exact h) (fun o ho => ?_)
  simp only [qa, qb, qc, qd] at ho; subst ho
  refine ⟨_, Or.inl ⟨by kernel_rfl, fun w' hl => Or.inl (run_load _ rfl _ rfl (p) (HR1.out.later hl))⟩, ?_⟩
  simp only [Act.put, pa, pb, pc]
  refine ltk 2 (by kernel_rfl) (fun _ _ d _ _ h => by cases d <;> exact h) (fun o ho => ?_)
  simp only [qa, qb, qc, qd] at ho; subst ho
  refine ⟨_, Or.inl ⟨by kernel_rfl, fun w' hl => Or.inl (run_load _ rfl _ rfl (p) (HR1.out.later hl))⟩, ?_⟩
  simp only [Act.put, pa, pb, pc]
  refine late_one 1 (by kernel_rfl) (by kernel_rfl) (fun o ho => ?_)
  simp only [qa, qb, qc, qd] at ho; subst ho
  refine ⟨by kernel_rfl, fun wn hl K hK => ?_⟩
  have HR1 := Lib.hid (HR1.out.later hl); have HB := Lib.hid (below_on HB.out hl); clear hl
  refine wp_enter _ _ (by go_simp; exact ⟨rfl, rfl⟩) ?_
  refine (rheld_any p 0 _ (by decide) HP.out).mono ?_; rintro e wm ⟨rfl, hb⟩; refine ⟨_, rfl, ?_⟩
  refine hK.out _ _ hb ?_
  have HR1 := Lib.hid (HR1.out.later hb); have HB := Lib.hid (below_on HB.out hb); clear hb
  clear hK K
  simp only [Act.put, pa, pb, pc]
  refine late_one 3 (by kernel_rfl) (by kernel_rfl) (fun o ho => ?_)
  simp only [qa, qb, qc, qd] at ho; subst ho
  refine ⟨by kernel_rfl, fun wn hl K hK => ?_⟩
  have HR1 := Lib.hid (HR1.out.later hl); have HB := Lib.hid (below_on HB.out hl); clear hl
  refine wp_enter _ _ (by go_simp; exact ⟨rfl, rfl⟩) ?_
  refine (rheld_any p 1 _ (by decide) HP.out).mono ?_; rintro e wm ⟨rfl, hb⟩; refine ⟨_, rfl, ?_⟩
  refine hK.out _ _ hb ?_
  have HR1 := Lib.hid (HR1.out.later hb); have HB := Lib.hid (below_on HB.out hb); clear hb
  clear hK K
  simp only [Act.put, pa, pb, pc]
  refine ltk 4 (by kernel_rfl) (fun _ _ d _ _ h => by cases d <;> exact h) (fun o ho => ?_)
  simp only [qa, qb, qc, qd] at ho; subst ho
  refine ⟨.int .i64 (helS p 0 + helS p 1), Or.inl ⟨by kernel_rfl, fun w' hl => Or.inl ?_⟩, ?_⟩
  · go_simp; (try rw [IntWalk.i64_in _ (by omega)])
  simp only [Act.put, pa, pb, pc]
  refine ltk 5 (by kernel_rfl) (fun _ _ d _ _ h => by cases d <;> exact h) (fun o ho => ?_)
  simp only [qa, qb, qc, qd] at ho; subst ho
  apply Exists.intro
  refine ⟨Or.inl ⟨by kernel_rfl, fun w' hl => Or.inl ?_⟩, ?_⟩
  · (go_simp; try with_reducible rfl)
  simp only [Act.put, pa, pb, pc]
  refine late_end (by kernel_rfl) (fun wn hl => ?_)
  have HR1 := Lib.hid (HR1.out.later hl); have HB := Lib.hid (below_on HB.out hl); clear hl
  obtain ⟨hs, hhs⟩ : ∃ hs, helS p 0 + helS p 1 = hs := ⟨_, rfl⟩
  have HHs := Lib.hid hhs
  have hs1 : 0 ≤ hs ∧ hs ≤ 3060 := by omega
  rw [hhs]
  clear hhs h0 h1
  go_wp2_with fail
  go_loopw [3, 4] (fun n i wr => ∃ k : Nat, k ≤ 64 ∧ i = .int .i64 (k : Int) ∧ n = .int .i64 (hs + cntT p k) ∧ Row wr b1 p ∧ Below w.heap.size w wr) (fun _ i _ => 64 - (intOf i).toNat)
  case atStart => exact ⟨0, by omega, rfl, by rw [show cntT p 0 = 0 from rfl, Int.add_zero], HR1.out, HB.out⟩
  case round =>
    clear HR1 HB
    obtain ⟨k, hk, rfl, rfl, hr1, hb⟩ := hrel
    have HR1 := Lib.hid hr1
    have HB := Lib.hid hb
    clear hr1 hb
    by_cases hlt : k < 64
    · have HK := Lib.hid hlt
      have hn := cntT_rng p k
      have HN := Lib.hid (show cntT p (k + 1) = cntT p k + (bif pcB (p (1 + k)) then 1 else 0) from rfl)
      have HYr := Lib.hid (HP.out.bd k hlt)
      obtain ⟨y, hy⟩ : ∃ y, p (1 + k) = y := ⟨_, rfl⟩
      have HY := Lib.hid hy
      rw [hy] at HN HYr
      obtain ⟨kd, hkd⟩ : ∃ kd, kndZ y = kd := ⟨_, rfl⟩
      have HKd := Lib.hid hkd
      have hne := knd_ne y
      rw [hkd] at hne
      obtain ⟨x, hx⟩ : ∃ x, hs + cntT p k = x := ⟨_, rfl⟩
      have hxr : 0 ≤ x ∧ x ≤ 4000 := by omega
      have HX := Lib.hid hx
      rw [hx]
      clear hy hkd hx hn
      cases gp : pcB y
      · rw [gp] at hne HN
        clear gp
        go_wp2_with (first
        | (guard_target = Go.wpList _ _ _ ((⟨some _, .load _ (.tmp 16), _, _, _, _⟩ : Go.Oper) :: _) _ _; refine step_get rfl 5 _ rfl b1 (1 + k) rfl Tryd.underlying5 rfl (.int .u8 y) ?_ ?_; exact (HR1.out.cell (1 + k) (by have := HK.out; omega)).trans (by rw [kAt_board (Nat.zero_le _) HK.out, HY.out]))
        | (go_at_call 24; refine (rkind_dr y _ HYr.out.1 HYr.out.2).mono ?_; rintro e w3 ⟨rfl, rfl⟩; rw [HKd.out]))
        go_roundw
        case rel => exact ⟨k + 1, by omega, by go_num, by rw [HN.out, ← HX.out, cond_false, Int.add_zero], HR1.out, HB.out⟩
        case measure => simp [intOf]; omega
      · rw [gp] at hne HN
        clear gp
        go_wp2_with (first
        | (guard_target = Go.wpList _ _ _ ((⟨some _, .load _ (.tmp 16), _, _, _, _⟩ : Go.Oper) :: _) _ _; refine step_get rfl 5 _ rfl b1 (1 + k) rfl Tryd.underlying5 rfl (.int .u8 y) ?_ ?_; exact (HR1.out.cell (1 + k) (by have := HK.out; omega)).trans (by rw [kAt_board (Nat.zero_le _) HK.out, HY.out]))
        | (go_at_call 24; refine (rkind_dr y _ HYr.out.1 HYr.out.2).mono ?_; rintro e w3 ⟨rfl, rfl⟩; rw [HKd.out]))
        go_roundw
        case rel => exact ⟨k + 1, by omega, by go_num, by rw [HN.out, ← HX.out, cond_true, Int.add_assoc], HR1.out, HB.out⟩
        case measure => simp [intOf]; omega
    · obtain rfl : k = 64 := by omega
      have HE := Lib.hid (show hs + cntT p 64 = menZ p by unfold menZ; rw [← HHs.out]; omega)
      rw [HE.out]
      go_wp2_with fail
      go_ret
      exact ⟨rfl, HB.out⟩
set_option maxRecDepth 100000 in
set_option maxHeartbeats 4000000 in
theorem rlist_dr (p : Nat → Int) (w : World) (hp : DrR p) : Calls Tryd.prog 11 #[.agg (posA p)] w (DrM p w) := by
  have HP := Lib.hid hp
  have HB := Lib.hid (Below.refl w.heap.size w)
  have ht := hp.turn
  have hv := hp.var
  clear hp
  cases g1 : decide (1 < p 78)
  · have g1' : ¬ 1 < p 78 := of_decide_eq_false g1
    cases g2 : (p 0 == 2)
    · have g2' : (p 0 != 2) = true := by rw [bne, g2]; rfl
      have HL := Lib.hid (drL_none (p := p) (Or.inr g2))
      go_enter Tryd.func11, Tryd.ntmps11
      go_wp2_with (first
        | (guard_target = Go.wpList _ _ _ ((⟨some 1, .box _ _, _, _, _, _⟩ : Go.Oper) :: _) _ _; refine step_box rfl _ rfl p rfl ?_; intro b1 w1 N R; have HG1 := Lib.hid (show w.heap.size ≤ b1 by have := HB.out.size; have := N.at_; omega); have HB := Lib.hid (below_on HB.out N.below); have HR1 := Lib.hid R; clear N R)
        | (guard_target = Go.wpList _ _ _ ((⟨some _, .load _ (.tmp 6), _, _, _, _⟩ : Go.Oper) :: _) _ _; refine step_get rfl 5 _ rfl b1 78 rfl Tryd.underlying5 rfl (.int .u8 (p 78)) ?_ ?_; exact HR1.out.cell 78 (by decide))
        | (guard_target = Go.wpList _ _ _ ((⟨some _, .load _ (.tmp 10), _, _, _, _⟩ : Go.Oper) :: _) _ _; refine step_get rfl 5 _ rfl b1 0 rfl Tryd.underlying5 rfl (.int .u8 (p 0)) ?_ ?_; exact HR1.out.cell 0 (by decide)))
      exact bodyPost_ret (results_tmp rfl _ _ _) rfl ⟨_, rfl, by rw [HL.out]; exact World.ownsRow_nil _ _ _ _, HB.out⟩
    · have g2' : (p 0 != 2) = false := by rw [bne, g2]; rfl
      have HL := Lib.hid (show drL p = drT p 6 by unfold drL; rw [g2]; rfl)
      clear g2
      obtain ⟨t, htu⟩ := Int.eq_ofNat_of_zero_le ht.1
      have htu : p 78 = (t : Int) := htu
      have ht1 : t ≤ 1 := by omega
      have HTu := Lib.hid htu
      clear ht hv htu g1'
      obtain ⟨i0, hi, hz0, hz1, hz2⟩ : ∃ i, Tryd.prog.info? 45 = some i ∧ i.zero = some (.agg (mvA mv0)) ∧ i.size = 5 ∧ i.bytes = 5 := by
        cases h : Tryd.prog.info? 45 with
        | none => have := infoMv; rw [h] at this; cases this
        | some i => have := infoMv; rw [h] at this; simp at this; exact ⟨i, rfl, this.1, this.2.1, this.2.2⟩
      go_enter Tryd.func11, Tryd.ntmps11
      go_wp2_with (first
        | (guard_target = Go.wpList _ _ _ ((⟨some 1, .box _ _, _, _, _, _⟩ : Go.Oper) :: _) _ _; refine step_box rfl _ rfl p rfl ?_; intro b1 w1 N R; have HG1 := Lib.hid (show w.heap.size ≤ b1 by have := HB.out.size; have := N.at_; omega); have HB := Lib.hid (below_on HB.out N.below); have HR1 := Lib.hid R; clear N R)
        | (guard_target = Go.wpList _ _ _ ((⟨some _, .load _ (.tmp 6), _, _, _, _⟩ : Go.Oper) :: _) _ _; refine step_get rfl 5 _ rfl b1 78 rfl Tryd.underlying5 rfl (.int .u8 (p 78)) ?_ ?_; exact HR1.out.cell 78 (by decide))
        | (guard_target = Go.wpList _ _ _ ((⟨some _, .load _ (.tmp 10), _, _, _, _⟩ : Go.Oper) :: _) _ _; refine step_get rfl 5 _ rfl b1 0 rfl Tryd.underlying5 rfl (.int .u8 (p 0)) ?_ ?_; exact HR1.out.cell 0 (by decide)))
      clear g1 g2'
      go_loopw [3, 4] (fun v i wr => ∃ k : Nat, 1 ≤ k ∧ k ≤ 6 ∧ i = .int .u8 (k : Int) ∧ MvsO (b1 + 1) (drT p k) v wr ∧ Row wr b1 p ∧ Below w.heap.size w wr ∧ b1 + 1 ≤ wr.heap.size) (fun _ i _ => 6 - (intOf i).toNat)
      case atStart => exact ⟨1, by omega, by omega, rfl, by rw [drT_1]; exact World.ownsRow_nil _ _ _ _, HR1.out, HB.out, HR1.out.lt⟩
      case round =>
        clear HR1 HB
        obtain ⟨k, hk1, hk, rfl, hv, hr1, hb, hs⟩ := hrel
        have HV := Lib.hid hv
        have HR1 := Lib.hid hr1
        have HB := Lib.hid hb
        have HS := Lib.hid hs
        clear hv hr1 hb hs
        by_cases hlt : k < 6
        · have gk : decide (k ≤ 5) = true := decide_eq_true (by omega)
          have gk2 : decide ((k : Int) ≤ 5) = true := decide_eq_true (by omega)
          have HK := Lib.hid (show 66 + t * 6 + k < 78 by omega)
          have HK6 := Lib.hid hlt
          have hk255 : (k : Int) < 6 := by omega
          have HDn := Lib.hid (drT_next p k)
          have HDl := Lib.hid (drT_len p k)
          have hv : helC p (p 78) (k : Int) = p (66 + t * 6 + k) := by rw [HTu.out, helC_yes (hasP_true.2 (by omega)), pkJ_at]
          have hxr := HP.out.pk (66 + t * 6 + k) (by omega) (by omega)
          obtain ⟨x, hx⟩ : ∃ x, p (66 + t * 6 + k) = x := ⟨_, rfl⟩
          have HX := Lib.hid hx
          rw [hx] at hv hxr
          clear hx
          cases gx : decide (0 < x)
          · have HTt := Lib.hid (show drT p (k + 1) = drT p k by rw [HDn.out, drK_no (by rw [hv]; have := of_decide_eq_false gx; rw [beq_iff_eq]; omega), List.append_nil])
            clear hv hxr
            go_wp2_with fail
            go_loopw [3, 5] (fun v i wr => i = .int .i64 0 ∧ MvsO (b1 + 1) (drT p k) v wr ∧ Row wr b1 p ∧ Below w.heap.size w wr ∧ b1 + 1 ≤ wr.heap.size) (fun _ _ _ => 0)
            case atStart => exact ⟨rfl, HV.out, HR1.out, HB.out, HS.out⟩
            case round =>
              clear HV HR1 HB HS
              obtain ⟨rfl, hv, hr1, hb, hs⟩ := hrel
              have HV := Lib.hid hv
              have HR1 := Lib.hid hr1
              have HB := Lib.hid hb
              have HS := Lib.hid hs
              clear hv hr1 hb hs
              go_wp2_with (first
                | (guard_target = Go.wpList _ _ _ ((⟨some _, .load _ (.tmp 22), _, _, _, _⟩ : Go.Oper) :: _) _ _; refine step_get rfl 5 _ rfl b1 78 rfl Tryd.underlying5 rfl (.int .u8 ((t : Nat) : Int)) ?_ ?_; exact (HR1.out.cell 78 (by decide)).trans (by rw [HTu.out]; rfl))
                | (guard_target = Go.wpList _ _ _ ((⟨some _, .load _ (.tmp 27), _, _, _, _⟩ : Go.Oper) :: _) _ _; refine step_get rfl 5 _ rfl b1 (66 + t * 6 + k) rfl Tryd.underlying5 rfl (.int .u8 x) ?_ ?_; exact (HR1.out.cell (66 + t * 6 + k) (by have := HK.out; omega)).trans (by rw [kAt_pk (by omega) (by have := HK.out; omega), HX.out])))
              go_roundw
              case rel => exact ⟨k + 1, by omega, by have := HK6.out; omega, by go_num, by rw [HTt.out]; exact HV.out, HR1.out, HB.out, HS.out⟩
              case measure => simp [intOf]; have := HK6.out; omega
          · have HTt := Lib.hid (show drT p (k + 1) = drT p k ++ rsT p k 64 by rw [HDn.out, drK_yes (by rw [hv]; have := of_decide_eq_true gx; rw [beq_eq_false_iff_ne]; omega)])
            clear hv hxr
            go_wp2_with fail
            go_loopw [3, 5] (fun v i wr => ∃ s : Nat, s ≤ 64 ∧ i = .int .i64 (s : Int) ∧ MvsO (b1 + 1) (drT p k ++ rsT p k s) v wr ∧ Row wr b1 p ∧ Below w.heap.size w wr ∧ b1 + 1 ≤ wr.heap.size) (fun _ i _ => 64 - (intOf i).toNat)
            case atStart => exact ⟨0, by omega, rfl, by rw [show rsT p k 0 = [] from rfl, List.append_nil]; exact HV.out, HR1.out, HB.out, HS.out⟩
            case round =>
              clear HV HR1 HB HS
              obtain ⟨s, hs0, rfl, hv, hr1, hb, hs⟩ := hrel
              have HV := Lib.hid hv
              have HR1 := Lib.hid hr1
              have HB := Lib.hid hb
              have HS := Lib.hid hs
              clear hv hr1 hb hs
              by_cases hs2 : s < 64
              · have HSq := Lib.hid hs2
                have gs : decide (s < 64) = true := decide_eq_true hs2
                have gs2 : decide ((s : Int) < 64) = true := decide_eq_true (by omega)
                have HYr := Lib.hid (HP.out.bd s hs2)
                have hw1 : IntKind.i8.wrap (s : Int) = (s : Int) := IntWalk.i8_in _ (by omega)
                have HLn := Lib.hid (show (drT p k ++ rsT p k s).length ≤ 1000 by rw [List.length_append]; have := HDl.out; have := rsT_len p k s; omega)
                obtain ⟨y, hy⟩ : ∃ y, p (1 + s) = y := ⟨_, rfl⟩
                have HY := Lib.hid hy
                rw [hy] at HYr
                obtain ⟨kd, hkd⟩ : ∃ kd, kndZ y = kd := ⟨_, rfl⟩
                have HKd := Lib.hid hkd
                have hne := knd_ne y
                rw [hkd] at hne
                clear hy hkd
                cases gp : pcB y
                · rw [gp] at hne
                  cases ge : (k == 1)
                  · have ge2 : ((k : Int) == 1) = false := by rw [beq_eq_false_iff_ne] at ge ⊢; omega
                    have HTs := Lib.hid (show rsT p k (s + 1) = rsT p k s ++ [dmv k s] by rw [rsT_next]; unfold skB; rw [HY.out, gp, ge]; rfl)
                    obtain ⟨LA, hLA⟩ : ∃ LA, drT p k ++ rsT p k s = LA := ⟨_, rfl⟩
                    have HTs := Lib.hid (show drT p k ++ rsT p k (s + 1) = LA ++ [dmv k s] by rw [HTs.out, ← List.append_assoc, hLA])
                    have HV := Lib.hid (show MvsO (b1 + 1) LA u3 wr by rw [← hLA]; exact HV.out)
                    rw [hLA] at HLn
                    clear hLA
                    go_wp2_with (first
                      | (guard_target = Go.wpList _ _ _ ((⟨some _, .load _ (.tmp 22), _, _, _, _⟩ : Go.Oper) :: _) _ _; refine step_get rfl 5 _ rfl b1 78 rfl Tryd.underlying5 rfl (.int .u8 ((t : Nat) : Int)) ?_ ?_; exact (HR1.out.cell 78 (by decide)).trans (by rw [HTu.out]; rfl))
                      | (guard_target = Go.wpList _ _ _ ((⟨some _, .load _ (.tmp 27), _, _, _, _⟩ : Go.Oper) :: _) _ _; refine step_get rfl 5 _ rfl b1 (66 + t * 6 + k) rfl Tryd.underlying5 rfl (.int .u8 x) ?_ ?_; exact (HR1.out.cell (66 + t * 6 + k) (by have := HK.out; omega)).trans (by rw [kAt_pk (by omega) (by have := HK.out; omega), HX.out]))
                      | (guard_target = Go.wpList _ _ _ ((⟨some _, .load _ (.tmp 35), _, _, _, _⟩ : Go.Oper) :: _) _ _; refine step_get rfl 5 _ rfl b1 (1 + s) rfl Tryd.underlying5 rfl (.int .u8 y) ?_ ?_; exact (HR1.out.cell (1 + s) (by have := HSq.out; omega)).trans (by rw [kAt_board (Nat.zero_le _) HSq.out, HY.out]))
                      | (go_at_call 24; refine (rkind_dr y _ HYr.out.1 HYr.out.2).mono ?_; rintro e w3 ⟨rfl, rfl⟩; rw [HKd.out])
                      | (guard_target = Go.wpList _ _ _ ((⟨some 57, .build _ _, _, _, _, _⟩ : Go.Oper) :: _) _ _; refine step_build (op := ⟨some 57, .build _ _, _, _, _, _⟩) rfl 45 _ rfl (mvA ⟨(s : Int), (s : Int), 0, (k : Int), false⟩) (by kernel_rfl) ?_; show wpList _ _ _ _ (Act.put _ _ (Value.agg #[.int .i8 (s : Int), .int .i8 (s : Int), .int .u8 0, .int .u8 (k : Int), .bool false])) _)
                      | (at_builtin; refine wpList_append_own_at _ rfl _ _ 33 rfl (b1 + 1) 45 i0 (.agg (mvA mv0)) 5 5 Tryd.underlying33 hi hz0 hz1 hz2 rfl (by decide) _ _ _ rfl (World.ownsRow.alloc HV.out _) ⟨_, 0, none⟩ 1 1 (mvA (dmv k s)).toList rfl rfl ?c1 ?c2 ?c3 ?c4 ?c5 ?_))
                    case c1 => exact mcells_new _ (mvA (dmv k s)) _
                    case c2 => simp [mvA, Value.oneCell']
                    case c3 => unfold maxLen; have := HLn.out; omega
                    case c4 => have := HLn.out; omega
                    case c5 => have := HS.out; simp; omega
                    intro v' w8 hown' hgrow _ hat
                    have HVn := Lib.hid (HV.out.grow hown')
                    have hkp := (Kept.of_call (fun k => u3.ownBlock = some k) (box_below _ _)).trans (mkept_grown hgrow)
                    have HR1n := Lib.hid (row_keptDr HR1.out hkp (fun e => by have h1 := HV.out.from e; omega))
                    have HBn := Lib.hid (HB.out.trans (hkp.below (fun i hi => by have h1 := HV.out.from hi; have := HG1.out; omega) HB.out.size))
                    have HSn := Lib.hid (Nat.le_trans HS.out hkp.size)
                    clear hkp hown' hgrow hat
                    go_wp2_with fail
                    go_roundw
                    case rel => exact ⟨s + 1, by have := HSq.out; omega, by go_num, by rw [HTs.out]; exact HVn.out, HR1n.out, HBn.out, HSn.out⟩
                    case measure => simp [intOf]; have := HSq.out; omega
                  · have ge2 : ((k : Int) == 1) = true := by rw [beq_iff_eq] at ge ⊢; omega
                    cases g8 : decide (s < 8)
                    · have g8' : decide ((s : Int) < 8) = false := decide_eq_false (by have := of_decide_eq_false g8; omega)
                      cases g55 : decide (55 < s)
                      · have g55' : decide (55 < (s : Int)) = false := decide_eq_false (by have := of_decide_eq_false g55; omega)
                        have HTs := Lib.hid (show rsT p k (s + 1) = rsT p k s ++ [dmv k s] by rw [rsT_next]; unfold skB; rw [HY.out, gp, ge, g8, g55]; rfl)
                        obtain ⟨LA, hLA⟩ : ∃ LA, drT p k ++ rsT p k s = LA := ⟨_, rfl⟩
                        have HTs := Lib.hid (show drT p k ++ rsT p k (s + 1) = LA ++ [dmv k s] by rw [HTs.out, ← List.append_assoc, hLA])
                        have HV := Lib.hid (show MvsO (b1 + 1) LA u3 wr by rw [← hLA]; exact HV.out)
                        rw [hLA] at HLn
                        clear hLA
                        go_wp2_with (first
                          | (guard_target = Go.wpList _ _ _ ((⟨some _, .load _ (.tmp 22), _, _, _, _⟩ : Go.Oper) :: _) _ _; refine step_get rfl 5 _ rfl b1 78 rfl Tryd.underlying5 rfl (.int .u8 ((t : Nat) : Int)) ?_ ?_; exact (HR1.out.cell 78 (by decide)).trans (by rw [HTu.out]; rfl))
                          | (guard_target = Go.wpList _ _ _ ((⟨some _, .load _ (.tmp 27), _, _, _, _⟩ : Go.Oper) :: _) _ _; refine step_get rfl 5 _ rfl b1 (66 + t * 6 + k) rfl Tryd.underlying5 rfl (.int .u8 x) ?_ ?_; exact (HR1.out.cell (66 + t * 6 + k) (by have := HK.out; omega)).trans (by rw [kAt_pk (by omega) (by have := HK.out; omega), HX.out]))
                          | (guard_target = Go.wpList _ _ _ ((⟨some _, .load _ (.tmp 35), _, _, _, _⟩ : Go.Oper) :: _) _ _; refine step_get rfl 5 _ rfl b1 (1 + s) rfl Tryd.underlying5 rfl (.int .u8 y) ?_ ?_; exact (HR1.out.cell (1 + s) (by have := HSq.out; omega)).trans (by rw [kAt_board (Nat.zero_le _) HSq.out, HY.out]))
                          | (go_at_call 24; refine (rkind_dr y _ HYr.out.1 HYr.out.2).mono ?_; rintro e w3 ⟨rfl, rfl⟩; rw [HKd.out])
                          | (guard_target = Go.wpList _ _ _ ((⟨some 57, .build _ _, _, _, _, _⟩ : Go.Oper) :: _) _ _; refine step_build (op := ⟨some 57, .build _ _, _, _, _, _⟩) rfl 45 _ rfl (mvA ⟨(s : Int), (s : Int), 0, (k : Int), false⟩) (by kernel_rfl) ?_; show wpList _ _ _ _ (Act.put _ _ (Value.agg #[.int .i8 (s : Int), .int .i8 (s : Int), .int .u8 0, .int .u8 (k : Int), .bool false])) _)
                          | (at_builtin; refine wpList_append_own_at _ rfl _ _ 33 rfl (b1 + 1) 45 i0 (.agg (mvA mv0)) 5 5 Tryd.underlying33 hi hz0 hz1 hz2 rfl (by decide) _ _ _ rfl (World.ownsRow.alloc HV.out _) ⟨_, 0, none⟩ 1 1 (mvA (dmv k s)).toList rfl rfl ?c1 ?c2 ?c3 ?c4 ?c5 ?_))
                        case c1 => exact mcells_new _ (mvA (dmv k s)) _
                        case c2 => simp [mvA, Value.oneCell']
                        case c3 => unfold maxLen; have := HLn.out; omega
                        case c4 => have := HLn.out; omega
                        case c5 => have := HS.out; simp; omega
                        intro v' w8 hown' hgrow _ hat
                        have HVn := Lib.hid (HV.out.grow hown')
                        have hkp := (Kept.of_call (fun k => u3.ownBlock = some k) (box_below _ _)).trans (mkept_grown hgrow)
                        have HR1n := Lib.hid (row_keptDr HR1.out hkp (fun e => by have h1 := HV.out.from e; omega))
                        have HBn := Lib.hid (HB.out.trans (hkp.below (fun i hi => by have h1 := HV.out.from hi; have := HG1.out; omega) HB.out.size))
                        have HSn := Lib.hid (Nat.le_trans HS.out hkp.size)
                        clear hkp hown' hgrow hat
                        go_wp2_with fail
                        go_roundw
                        case rel => exact ⟨s + 1, by have := HSq.out; omega, by go_num, by rw [HTs.out]; exact HVn.out, HR1n.out, HBn.out, HSn.out⟩
                        case measure => simp [intOf]; have := HSq.out; omega
                      · have g55' : decide (55 < (s : Int)) = true := decide_eq_true (by have := of_decide_eq_true g55; omega)
                        have HTs := Lib.hid (show rsT p k (s + 1) = rsT p k s by rw [rsT_next]; unfold skB; rw [HY.out, gp, ge, g8, g55]; exact List.append_nil _)
                        go_wp2_with (first
                          | (guard_target = Go.wpList _ _ _ ((⟨some _, .load _ (.tmp 22), _, _, _, _⟩ : Go.Oper) :: _) _ _; refine step_get rfl 5 _ rfl b1 78 rfl Tryd.underlying5 rfl (.int .u8 ((t : Nat) : Int)) ?_ ?_; exact (HR1.out.cell 78 (by decide)).trans (by rw [HTu.out]; rfl))
                          | (guard_target = Go.wpList _ _ _ ((⟨some _, .load _ (.tmp 27), _, _, _, _⟩ : Go.Oper) :: _) _ _; refine step_get rfl 5 _ rfl b1 (66 + t * 6 + k) rfl Tryd.underlying5 rfl (.int .u8 x) ?_ ?_; exact (HR1.out.cell (66 + t * 6 + k) (by have := HK.out; omega)).trans (by rw [kAt_pk (by omega) (by have := HK.out; omega), HX.out]))
                          | (guard_target = Go.wpList _ _ _ ((⟨some _, .load _ (.tmp 35), _, _, _, _⟩ : Go.Oper) :: _) _ _; refine step_get rfl 5 _ rfl b1 (1 + s) rfl Tryd.underlying5 rfl (.int .u8 y) ?_ ?_; exact (HR1.out.cell (1 + s) (by have := HSq.out; omega)).trans (by rw [kAt_board (Nat.zero_le _) HSq.out, HY.out]))
                          | (go_at_call 24; refine (rkind_dr y _ HYr.out.1 HYr.out.2).mono ?_; rintro e w3 ⟨rfl, rfl⟩; rw [HKd.out]))
                        go_roundw
                        case rel => exact ⟨s + 1, by have := HSq.out; omega, by go_num, by rw [HTs.out]; exact HV.out, HR1.out, HB.out, HS.out⟩
                        case measure => simp [intOf]; have := HSq.out; omega
                    · have g8' : decide ((s : Int) < 8) = true := decide_eq_true (by have := of_decide_eq_true g8; omega)
                      have HTs := Lib.hid (show rsT p k (s + 1) = rsT p k s by rw [rsT_next]; unfold skB; rw [HY.out, gp, ge, g8]; exact List.append_nil _)
                      go_wp2_with (first
                        | (guard_target = Go.wpList _ _ _ ((⟨some _, .load _ (.tmp 22), _, _, _, _⟩ : Go.Oper) :: _) _ _; refine step_get rfl 5 _ rfl b1 78 rfl Tryd.underlying5 rfl (.int .u8 ((t : Nat) : Int)) ?_ ?_; exact (HR1.out.cell 78 (by decide)).trans (by rw [HTu.out]; rfl))
                        | (guard_target = Go.wpList _ _ _ ((⟨some _, .load _ (.tmp 27), _, _, _, _⟩ : Go.Oper) :: _) _ _; refine step_get rfl 5 _ rfl b1 (66 + t * 6 + k) rfl Tryd.underlying5 rfl (.int .u8 x) ?_ ?_; exact (HR1.out.cell (66 + t * 6 + k) (by have := HK.out; omega)).trans (by rw [kAt_pk (by omega) (by have := HK.out; omega), HX.out]))
                        | (guard_target = Go.wpList _ _ _ ((⟨some _, .load _ (.tmp 35), _, _, _, _⟩ : Go.Oper) :: _) _ _; refine step_get rfl 5 _ rfl b1 (1 + s) rfl Tryd.underlying5 rfl (.int .u8 y) ?_ ?_; exact (HR1.out.cell (1 + s) (by have := HSq.out; omega)).trans (by rw [kAt_board (Nat.zero_le _) HSq.out, HY.out]))
                        | (go_at_call 24; refine (rkind_dr y _ HYr.out.1 HYr.out.2).mono ?_; rintro e w3 ⟨rfl, rfl⟩; rw [HKd.out]))
                      go_roundw
                      case rel => exact ⟨s + 1, by have := HSq.out; omega, by go_num, by rw [HTs.out]; exact HV.out, HR1.out, HB.out, HS.out⟩
                      case measure => simp [intOf]; have := HSq.out; omega
                · rw [gp] at hne
                  have HTs := Lib.hid (show rsT p k (s + 1) = rsT p k s by rw [rsT_next]; unfold skB; rw [HY.out, gp]; exact List.append_nil _)
                  go_wp2_with (first
                    | (guard_target = Go.wpList _ _ _ ((⟨some _, .load _ (.tmp 22), _, _, _, _⟩ : Go.Oper) :: _) _ _; refine step_get rfl 5 _ rfl b1 78 rfl Tryd.underlying5 rfl (.int .u8 ((t : Nat) : Int)) ?_ ?_; exact (HR1.out.cell 78 (by decide)).trans (by rw [HTu.out]; rfl))
                    | (guard_target = Go.wpList _ _ _ ((⟨some _, .load _ (.tmp 27), _, _, _, _⟩ : Go.Oper) :: _) _ _; refine step_get rfl 5 _ rfl b1 (66 + t * 6 + k) rfl Tryd.underlying5 rfl (.int .u8 x) ?_ ?_; exact (HR1.out.cell (66 + t * 6 + k) (by have := HK.out; omega)).trans (by rw [kAt_pk (by omega) (by have := HK.out; omega), HX.out]))
                    | (guard_target = Go.wpList _ _ _ ((⟨some _, .load _ (.tmp 35), _, _, _, _⟩ : Go.Oper) :: _) _ _; refine step_get rfl 5 _ rfl b1 (1 + s) rfl Tryd.underlying5 rfl (.int .u8 y) ?_ ?_; exact (HR1.out.cell (1 + s) (by have := HSq.out; omega)).trans (by rw [kAt_board (Nat.zero_le _) HSq.out, HY.out]))
                    | (go_at_call 24; refine (rkind_dr y _ HYr.out.1 HYr.out.2).mono ?_; rintro e w3 ⟨rfl, rfl⟩; rw [HKd.out]))
                  go_roundw
                  case rel => exact ⟨s + 1, by have := HSq.out; omega, by go_num, by rw [HTs.out]; exact HV.out, HR1.out, HB.out, HS.out⟩
                  case measure => simp [intOf]; have := HSq.out; omega
              · obtain rfl : s = 64 := by omega
                have gs2 : decide ((64 : Int) < 64) = false := by decide
                go_wp2_with fail
                go_roundw
                case rel => exact ⟨k + 1, by omega, by have := HK6.out; omega, by go_num, by rw [HTt.out]; exact HV.out, HR1.out, HB.out, HS.out⟩
                case measure => simp [intOf]; have := HK6.out; omega
        · obtain rfl : k = 6 := by omega
          go_wp2_with fail
          exact bodyPost_ret (results_tmp rfl _ _ _) rfl ⟨_, rfl, by rw [HL.out]; exact World.ownsRow.mono HV.out (Nat.le_succ_of_le HG1.out), HB.out⟩
  · have g1' : 1 < p 78 := of_decide_eq_true g1
    have HL := Lib.hid (drL_none (p := p) (Or.inl g1'))
    go_enter Tryd.func11, Tryd.ntmps11
    go_wp2_with (first
      | (guard_target = Go.wpList _ _ _ ((⟨some 1, .box _ _, _, _, _, _⟩ : Go.Oper) :: _) _ _; refine step_box rfl _ rfl p rfl ?_; intro b1 w1 N R; have HG1 := Lib.hid (show w.heap.size ≤ b1 by have := HB.out.size; have := N.at_; omega); have HB := Lib.hid (below_on HB.out N.below); have HR1 := Lib.hid R; clear N R)
      | (guard_target = Go.wpList _ _ _ ((⟨some _, .load _ (.tmp 6), _, _, _, _⟩ : Go.Oper) :: _) _ _; refine step_get rfl 5 _ rfl b1 78 rfl Tryd.underlying5 rfl (.int .u8 (p 78)) ?_ ?_; exact HR1.out.cell 78 (by decide))
      | (guard_target = Go.wpList _ _ _ ((⟨some _, .load _ (.tmp 10), _, _, _, _⟩ : Go.Oper) :: _) _ _; refine step_get rfl 5 _ rfl b1 0 rfl Tryd.underlying5 rfl (.int .u8 (p 0)) ?_ ?_; exact HR1.out.cell 0 (by decide)))
    exact bodyPost_ret (results_tmp rfl _ _ _) rfl ⟨_, rfl, by rw [HL.out]; exact World.ownsRow_nil _ _ _ _, HB.out⟩
end Go.Proofs.YtdjnniohoicppaaDoor
