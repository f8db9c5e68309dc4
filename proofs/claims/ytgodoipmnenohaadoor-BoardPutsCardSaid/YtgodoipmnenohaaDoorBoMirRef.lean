/-
  The contract of the document's own Mirror.
-/
import Derived.Test.YtgodoipmnenohaaDoorHeld
namespace Go.Proofs.YtgodoipmnenohaaDoor
open Go.RowKit
set_option linter.unusedVariables false
set_option linter.unusedSimpArgs false
theorem size24 : (Tryd.prog.info? 24).map (·.size) = some 6 := by kernel_rfl
theorem size27 : (Tryd.prog.info? 27).map (·.size) = some 2 := by kernel_rfl
theorem ex66 (p : Nat → Int) : (partL p 72 6).toArray = (partL (exP p) 66 6).toArray := rfl
theorem ex72 (p : Nat → Int) : (partL p 66 6).toArray = (partL (exP p) 72 6).toArray := rfl
theorem ex79 (p : Nat → Int) : (partL p 81 2).toArray = (partL (exP p) 79 2).toArray := rfl
theorem ex81 (p : Nat → Int) : (partL p 79 2).toArray = (partL (exP p) 81 2).toArray := rfl
theorem pass_wrap {s : Int} (h0 : 0 ≤ s) (h1 : s < 64) : IntKind.i8.wrap (IntKind.i8.wrap (8 * IntKind.i8.wrap (7 - IntKind.i8.wrap (s.tdiv 8))) + s % 8) = flipS s := by
  rw [Int.tdiv_eq_ediv_of_nonneg h0, IntWalk.i8_in (s / 8) (by omega), IntWalk.i8_in (7 - s / 8) (by omega), IntWalk.i8_in (8 * (7 - s / 8)) (by omega), IntWalk.i8_in _ (by omega)]; rfl
def rmir5 (p : Nat → Int) (m : Nat) : Nat → Int :=
  upd (upd (over (over (over (over (upd (mirTo p 64) 65 ((flipN m : Nat) : Int)) 66 6 (exP p)) 72 6 (exP p)) 79 2 (exP p)) 81 2 (exP p)) 84 (p 85)) 85 (p 84)
theorem rmir5_eq (p : Nat → Int) (m : Nat) : rmir5 p m = mir5m p m := by
  funext j
  unfold rmir5 mir5m
  by_cases a : j = 85
  · subst a; rw [upd_same, over, if_pos (by omega)]; rfl
  rw [upd_other _ _ _ _ a]
  by_cases b : j = 84
  · subst b; rw [upd_same, over, if_pos (by omega)]; rfl
  rw [upd_other _ _ _ _ b]
  by_cases c : 79 ≤ j ∧ j < 83
  · have e : over (over (over (upd (mirTo p 64) 65 ((flipN m : Nat) : Int)) 66 12 (exP p)) 79 4 (exP p)) 84 2 (exP p) j = exP p j := by unfold over; rw [if_neg (by omega), if_pos (by omega)]
    rw [e]; unfold over
    by_cases d : j < 81
    · rw [if_neg (by omega), if_pos (by omega)]
    · rw [if_pos (by omega)]
  by_cases d : 66 ≤ j ∧ j < 78
  · have e : over (over (over (upd (mirTo p 64) 65 ((flipN m : Nat) : Int)) 66 12 (exP p)) 79 4 (exP p)) 84 2 (exP p) j = exP p j := by unfold over; rw [if_neg (by omega), if_neg (by omega), if_pos (by omega)]
    rw [e]; unfold over
    by_cases f : j < 72
    · rw [if_neg (by omega), if_neg (by omega), if_neg (by omega), if_pos (by omega)]
    · rw [if_neg (by omega), if_neg (by omega), if_pos (by omega)]
  unfold over
  rw [if_neg (by omega), if_neg (by omega), if_neg (by omega), if_neg (by omega), if_neg (by omega), if_neg (by omega), if_neg (by omega)]
set_option maxRecDepth 100000 in
set_option maxHeartbeats 4000000 in
theorem rmirror_any (p : Nat → Int) (w : World) (hp : PosR p) : Calls Tryd.prog 23 #[.agg (posA p)] w (PosL (mirP p) w) := by
  have HP := Lib.hid hp
  obtain ⟨m, hm⟩ := Int.eq_ofNat_of_zero_le hp.prom.1
  have HM := Lib.hid hm
  have HMl := Lib.hid (show m < W64 by have := hp.prom.2; rw [hm] at this; exact this)
  have HK65 := Lib.hid (show kAt 65 = .u64 from rfl)
  have HK78 := Lib.hid (show kAt 78 = .u8 from rfl)
  have HK83 := Lib.hid (show kAt 83 = .i8 from rfl)
  clear hp hm
  go_enter Tryd.func23, Tryd.ntmps23
  go_wp2_with (first
    | (refine step_box rfl _ rfl p rfl ?_; intro b1 wn N R; have HR1 := Lib.hid R; have HB := Lib.hid N.below; have HG1 := Lib.hid (Nat.le_of_eq N.at_.symm); clear N R)
    | (refine step_alloc (op := ⟨some 2, _, _, _, _, _⟩) rfl rfl ?_; intro b2 wn N R; have HD12 := Lib.hid (N.ne HR1.out); have HR1 := Lib.hid (N.row HR1.out); have HR2 := Lib.hid R; have HG2 := Lib.hid (show w.heap.size ≤ b2 by have := HB.out.size; have := N.at_; omega); have HB := Lib.hid (below_on HB.out N.below); clear N R)
    | (refine step_load (op := ⟨some 5, _, _, _, _, _⟩) rfl _ rfl _ rfl p HR1.out ?_)
    | (refine step_alloc (op := ⟨some 3, _, _, _, _, _⟩) rfl rfl ?_; intro b3 wn N R; have HD13 := Lib.hid (N.ne HR1.out); have HD23 := Lib.hid (N.ne HR2.out); have HR1 := Lib.hid (N.row HR1.out); have HR2 := Lib.hid (N.row HR2.out); have HR3 := Lib.hid R; have HG3 := Lib.hid (show w.heap.size ≤ b3 by have := HB.out.size; have := N.at_; omega); have HB := Lib.hid (below_on HB.out N.below); clear N R)
    | (refine step_store rfl _ _ rfl _ rfl _ p rfl HR3.out ?_; intro wn U R; have HR1 := Lib.hid (HR1.out.apart U HD13.out); have HR2 := Lib.hid (HR2.out.apart U HD23.out); have HR3 := Lib.hid R; have HB := Lib.hid (HB.out.trans (U.below HG3.out)); clear U R))
  go_loopw [4] (fun i wr => ∃ k : Nat, k ≤ 64 ∧ i = .int .i64 (k : Int) ∧ Below w.heap.size w wr ∧ Row wr b1 p ∧ Row wr b2 zeroP ∧ Row wr b3 (mirTo p k)) (fun i _ => 64 - (intOf i).toNat)
  case atStart => exact ⟨0, by omega, rfl, HB.out, HR1.out, HR2.out, HR3.out⟩
  case round =>
    clear HR1 HR2 HR3 HB
    obtain ⟨k, hk, rfl, hb, hr1, hr2, hr3⟩ := hrel
    have HB := Lib.hid hb
    have HR1 := Lib.hid hr1
    have HR2 := Lib.hid hr2
    have HR3 := Lib.hid hr3
    clear hb hr1 hr2 hr3
    by_cases hlt : k < 64
    · obtain ⟨r0, r1⟩ := HP.out.bd k hlt
      have hcell := HR1.out.cell (1 + k) (by omega)
      rw [kAt_board (Nat.zero_le _) hlt] at hcell
      have HS := Lib.hid (show mirTo p (k + 1) = upd (mirTo p k) (1 + flN k) (othZ (p (1 + k))) from rfl)
      have hj := flN_lt hlt
      have hfl : 8 * (7 - (k : Int) / 8) + (k : Int) % 8 = ((flN k : Nat) : Int) := by unfold flN; omega
      have HKk := Lib.hid hk
      have HLt := Lib.hid hlt
      obtain ⟨x, Hx⟩ : ∃ x, Hid (p (1 + k) = x) := ⟨_, Lib.hid rfl⟩
      obtain ⟨j, Hj⟩ : ∃ j, Hid (flN k = j) := ⟨_, Lib.hid rfl⟩
      rw [Hx.out] at hcell r0 r1 HS
      rw [Hj.out] at hj hfl HS
      have HK := Lib.hid (kAt_board (Nat.zero_le _) hj)
      have HI := Lib.hid (show 1 + j < 88 by omega)
      have l0 : (0 : Int) ≤ (k : Int) := by omega
      have l1 : (k : Int) < 64 := by omega
      have l2 : (k : Int).toNat = k := by omega
      obtain ⟨s, hs⟩ : ∃ s : Int, (k : Int) = s := ⟨_, rfl⟩
      have HSs := Lib.hid hs
      rw [← l2] at hcell
      rw [hs] at hcell hfl l0 l1
      rw [hs]
      clear hs l2 hk hlt
      have l3 : (0 : Int) ≤ (j : Int) := by omega
      have l4 : (j : Int) < 64 := by omega
      have q0 : 0 ≤ s / 8 := by omega
      have q1 : s / 8 ≤ 7 := by omega
      have q2 : 0 ≤ s % 8 := by omega
      have q3 : s % 8 ≤ 7 := by omega
      go_wp2_with fail
      refine (roth_any _ _).mono ?_; rintro e wn ⟨rfl, hb⟩; clear hcell; have HR1 := Lib.hid (HR1.out.later hb); have HR2 := Lib.hid (HR2.out.later hb); have HR3 := Lib.hid (HR3.out.later hb); have HB := Lib.hid (below_on HB.out hb); clear hb
      go_wp2_with (refine step_cell rfl 5 _ _ rfl _ _ rfl _ _ rfl _ HR3.out HI.out HK.out size5 ?_; intro wn U R; have HR1 := Lib.hid (HR1.out.apart U HD13.out); have HR2 := Lib.hid (HR2.out.apart U HD23.out); have HR3 := Lib.hid R; have HB := Lib.hid (HB.out.trans (U.below HG3.out)); clear U R)
      go_roundw
      case rel => exact ⟨k + 1, HLt.out, by rw [← HSs.out]; go_num, HB.out, HR1.out, HR2.out, by rw [HS.out]; exact HR3.out⟩
      case measure => simp [intOf]; have := HSs.out; have := HLt.out; omega
    · obtain rfl : k = 64 := by omega
      clear hk hlt
      have hc65 := HR1.out.cell 65 (by omega)
      rw [HK65.out, HM.out] at hc65
      go_wp2_with fail
      refine (rflip_any _ _ HMl.out).mono ?_; rintro e wn ⟨rfl, hb⟩; clear hc65; have HR1 := Lib.hid (HR1.out.later hb); have HR2 := Lib.hid (HR2.out.later hb); have HR3 := Lib.hid (HR3.out.later hb); have HB := Lib.hid (below_on HB.out hb); clear hb
      go_wp2_with (refine step_cell rfl 23 _ _ rfl _ _ rfl _ _ rfl _ HR3.out (by omega) rfl size23 ?_; intro wn U R; have HR1 := Lib.hid (HR1.out.apart U HD13.out); have HR2 := Lib.hid (HR2.out.apart U HD23.out); have HR3 := Lib.hid R; have HB := Lib.hid (HB.out.trans (U.below HG3.out)); clear U R)
      simp only [Act.put]
      refine wp_region_held_drew (S := fun w' => Row w' b1 p) (by kernel_rfl) HR1.out.drew (fun _ => ?_)
      have HB := Lib.hid HB.out.drew
      have HR1 := Lib.hid HR1.out.drew
      have HR2 := Lib.hid HR2.out.drew
      have HR3 := Lib.hid HR3.out.drew
      refine held_take 0 (by kernel_rfl) (by kernel_rfl) (by kernel_rfl) (by kernel_rfl) (fun _ _ d _ _ h => by cases d <;> exact h) HR1.out (fun o ho => ?_)
      simp only [List.getElem?_toArray, List.getElem?_cons_zero, Option.some.injEq] at ho; subst ho
      apply Exists.intro
      refine ⟨Or.inl ⟨by kernel_rfl, fun w' _ => ?_⟩, ?_⟩
      · (go_simp; try with_reducible rfl)
      simp only [Act.put, List.setIfInBounds_toArray, List.set_cons_zero, List.set_cons_succ]
      refine held_take 1 (by kernel_rfl) (by kernel_rfl) (by kernel_rfl) (by kernel_rfl) (fun _ _ d _ _ h => by cases d <;> exact h) HR1.out (fun o ho => ?_)
      simp only [List.getElem?_toArray, List.getElem?_cons_zero, List.getElem?_cons_succ, Option.some.injEq] at ho; subst ho
      apply Exists.intro
      refine ⟨Or.inl ⟨by kernel_rfl, fun w' _ => ?_⟩, ?_⟩
      · (go_simp; try with_reducible rfl)
      simp only [Act.put, List.setIfInBounds_toArray, List.set_cons_zero, List.set_cons_succ]
      refine held_take 2 (by kernel_rfl) (by kernel_rfl) (by kernel_rfl) (by kernel_rfl) (fun _ _ d _ _ h => by cases d <;> exact h) HR1.out (fun o ho => ?_)
      simp only [List.getElem?_toArray, List.getElem?_cons_zero, List.getElem?_cons_succ, Option.some.injEq] at ho; subst ho
      refine ⟨_, y_read (by kernel_rfl) 24 _ rfl b1 72 6 rfl p (fun _ h => h) (by omega) _ Tryd.underlying24 rfl size24, ?_⟩
      simp only [Act.put, List.setIfInBounds_toArray, List.set_cons_zero, List.set_cons_succ]
      refine held_take 3 (by kernel_rfl) (by kernel_rfl) (by kernel_rfl) (by kernel_rfl) (fun _ _ d _ _ h => by cases d <;> exact h) HR1.out (fun o ho => ?_)
      simp only [List.getElem?_toArray, List.getElem?_cons_zero, List.getElem?_cons_succ, Option.some.injEq] at ho; subst ho
      apply Exists.intro
      refine ⟨Or.inl ⟨by kernel_rfl, fun w' _ => ?_⟩, ?_⟩
      · (go_simp; try with_reducible rfl)
      simp only [Act.put, List.setIfInBounds_toArray, List.set_cons_zero, List.set_cons_succ]
      refine held_take 4 (by kernel_rfl) (by kernel_rfl) (by kernel_rfl) (by kernel_rfl) (fun _ _ d _ _ h => by cases d <;> exact h) HR1.out (fun o ho => ?_)
      simp only [List.getElem?_toArray, List.getElem?_cons_zero, List.getElem?_cons_succ, Option.some.injEq] at ho; subst ho
      apply Exists.intro
      refine ⟨Or.inl ⟨by kernel_rfl, fun w' _ => ?_⟩, ?_⟩
      · (go_simp; try with_reducible rfl)
      simp only [Act.put, List.setIfInBounds_toArray, List.set_cons_zero, List.set_cons_succ]
      refine held_take 5 (by kernel_rfl) (by kernel_rfl) (by kernel_rfl) (by kernel_rfl) (fun _ _ d _ _ h => by cases d <;> exact h) HR1.out (fun o ho => ?_)
      simp only [List.getElem?_toArray, List.getElem?_cons_zero, List.getElem?_cons_succ, Option.some.injEq] at ho; subst ho
      refine ⟨_, y_read (by kernel_rfl) 24 _ rfl b1 66 6 rfl p (fun _ h => h) (by omega) _ Tryd.underlying24 rfl size24, ?_⟩
      simp only [Act.put, List.setIfInBounds_toArray, List.set_cons_zero, List.set_cons_succ]
      refine held_take 6 (by kernel_rfl) (by kernel_rfl) (by kernel_rfl) (by kernel_rfl) (fun _ _ d _ _ h => by cases d <;> exact h) HR1.out (fun o ho => ?_)
      simp only [List.getElem?_toArray, List.getElem?_cons_zero, List.getElem?_cons_succ, Option.some.injEq] at ho; subst ho
      apply Exists.intro
      refine ⟨Or.inl ⟨by kernel_rfl, fun w' _ => ?_⟩, ?_⟩
      · (go_simp; try with_reducible rfl)
      simp only [Act.put, List.setIfInBounds_toArray, List.set_cons_zero, List.set_cons_succ]
      refine held_take 7 (by kernel_rfl) (by kernel_rfl) (by kernel_rfl) (by kernel_rfl) (fun _ _ d _ _ h => by cases d <;> exact h) HR1.out (fun o ho => ?_)
      simp only [List.getElem?_toArray, List.getElem?_cons_zero, List.getElem?_cons_succ, Option.some.injEq] at ho; subst ho
      apply Exists.intro
      refine ⟨Or.inl ⟨by kernel_rfl, fun w' _ => ?_⟩, ?_⟩
      · (go_simp; try with_reducible rfl)
      simp only [Act.put, List.setIfInBounds_toArray, List.set_cons_zero, List.set_cons_succ]
      refine held_take 9 (by kernel_rfl) (by kernel_rfl) (by kernel_rfl) (by kernel_rfl) (fun _ _ d _ _ h => by cases d <;> exact h) HR1.out (fun o ho => ?_)
      simp only [List.getElem?_toArray, List.getElem?_cons_zero, List.getElem?_cons_succ, Option.some.injEq] at ho; subst ho
      apply Exists.intro
      refine ⟨Or.inl ⟨by kernel_rfl, fun w' _ => ?_⟩, ?_⟩
      · (go_simp; try with_reducible rfl)
      simp only [Act.put, List.setIfInBounds_toArray, List.set_cons_zero, List.set_cons_succ]
      refine held_do 8 (by kernel_rfl) (by kernel_rfl) (fun o ho => ?_)
      simp only [List.getElem?_toArray, List.getElem?_cons_zero, List.getElem?_cons_succ, Option.some.injEq] at ho; subst ho
      refine ⟨by kernel_rfl, fun K hK => ?_⟩
      refine wp_write 24 _ _ rfl b3 66 6 rfl _ (exP p) (congrArg Value.agg (ex66 p)) HR3.out (by omega) size24 ?_
      intro wn U R
      have HB := Lib.hid (HB.out.trans (U.below HG3.out)); have HR1n := Lib.hid (Row.apart HR1.out U HD13.out); have HR2 := Lib.hid (Row.apart HR2.out U HD23.out); have HR3 := Lib.hid R; clear U R; clear HR1; have HR1 := HR1n; clear HR1n
      refine hK.out _ _ HR1.out ?_
      clear hK K
      simp only [Act.put, List.setIfInBounds_toArray, List.set_cons_zero, List.set_cons_succ]
      refine held_take 10 (by kernel_rfl) (by kernel_rfl) (by kernel_rfl) (by kernel_rfl) (fun _ _ d _ _ h => by cases d <;> exact h) HR1.out (fun o ho => ?_)
      simp only [List.getElem?_toArray, List.getElem?_cons_zero, List.getElem?_cons_succ, Option.some.injEq] at ho; subst ho
      apply Exists.intro
      refine ⟨Or.inl ⟨by kernel_rfl, fun w' _ => ?_⟩, ?_⟩
      · (go_simp; try with_reducible rfl)
      simp only [Act.put, List.setIfInBounds_toArray, List.set_cons_zero, List.set_cons_succ]
      refine held_do 11 (by kernel_rfl) (by kernel_rfl) (fun o ho => ?_)
      simp only [List.getElem?_toArray, List.getElem?_cons_zero, List.getElem?_cons_succ, Option.some.injEq] at ho; subst ho
      refine ⟨by kernel_rfl, fun K hK => ?_⟩
      refine wp_write 24 _ _ rfl b3 72 6 rfl _ (exP p) (congrArg Value.agg (ex72 p)) HR3.out (by omega) size24 ?_
      intro wn U R
      have HB := Lib.hid (HB.out.trans (U.below HG3.out)); have HR1n := Lib.hid (Row.apart HR1.out U HD13.out); have HR2 := Lib.hid (Row.apart HR2.out U HD23.out); have HR3 := Lib.hid R; clear U R; clear HR1; have HR1 := HR1n; clear HR1n
      refine hK.out _ _ HR1.out ?_
      clear hK K
      simp only [Act.put, List.setIfInBounds_toArray, List.set_cons_zero, List.set_cons_succ]
      refine wpAnyH_done (by kernel_rfl) ?_ _
      go_wp2_with fail
      refine wp_region_held_drew (S := fun w' => Row w' b1 p) (by kernel_rfl) HR1.out.drew (fun _ => ?_)
      have HB := Lib.hid HB.out.drew
      have HR1 := Lib.hid HR1.out.drew
      have HR2 := Lib.hid HR2.out.drew
      have HR3 := Lib.hid HR3.out.drew
      refine held_take 0 (by kernel_rfl) (by kernel_rfl) (by kernel_rfl) (by kernel_rfl) (fun _ _ d _ _ h => by cases d <;> exact h) HR1.out (fun o ho => ?_)
      simp only [List.getElem?_toArray, List.getElem?_cons_zero, Option.some.injEq] at ho; subst ho
      apply Exists.intro
      refine ⟨Or.inl ⟨by kernel_rfl, fun w' _ => ?_⟩, ?_⟩
      · (go_simp; try with_reducible rfl)
      simp only [Act.put, List.setIfInBounds_toArray, List.set_cons_zero, List.set_cons_succ]
      refine held_take 1 (by kernel_rfl) (by kernel_rfl) (by kernel_rfl) (by kernel_rfl) (fun _ _ d _ _ h => by cases d <;> exact h) HR1.out (fun o ho => ?_)
      simp only [List.getElem?_toArray, List.getElem?_cons_zero, List.getElem?_cons_succ, Option.some.injEq] at ho; subst ho
      apply Exists.intro
      refine ⟨Or.inl ⟨by kernel_rfl, fun w' _ => ?_⟩, ?_⟩
      · (go_simp; try with_reducible rfl)
      simp only [Act.put, List.setIfInBounds_toArray, List.set_cons_zero, List.set_cons_succ]
      refine held_take 2 (by kernel_rfl) (by kernel_rfl) (by kernel_rfl) (by kernel_rfl) (fun _ _ d _ _ h => by cases d <;> exact h) HR1.out (fun o ho => ?_)
      simp only [List.getElem?_toArray, List.getElem?_cons_zero, List.getElem?_cons_succ, Option.some.injEq] at ho; subst ho
      refine ⟨_, y_read (by kernel_rfl) 27 _ rfl b1 81 2 rfl p (fun _ h => h) (by omega) _ Tryd.underlying27 rfl size27, ?_⟩
      simp only [Act.put, List.setIfInBounds_toArray, List.set_cons_zero, List.set_cons_succ]
      refine held_take 3 (by kernel_rfl) (by kernel_rfl) (by kernel_rfl) (by kernel_rfl) (fun _ _ d _ _ h => by cases d <;> exact h) HR1.out (fun o ho => ?_)
      simp only [List.getElem?_toArray, List.getElem?_cons_zero, List.getElem?_cons_succ, Option.some.injEq] at ho; subst ho
      apply Exists.intro
      refine ⟨Or.inl ⟨by kernel_rfl, fun w' _ => ?_⟩, ?_⟩
      · (go_simp; try with_reducible rfl)
      simp only [Act.put, List.setIfInBounds_toArray, List.set_cons_zero, List.set_cons_succ]
      refine held_take 4 (by kernel_rfl) (by kernel_rfl) (by kernel_rfl) (by kernel_rfl) (fun _ _ d _ _ h => by cases d <;> exact h) HR1.out (fun o ho => ?_)
      simp only [List.getElem?_toArray, List.getElem?_cons_zero, List.getElem?_cons_succ, Option.some.injEq] at ho; subst ho
      apply Exists.intro
      refine ⟨Or.inl ⟨by kernel_rfl, fun w' _ => ?_⟩, ?_⟩
      · (go_simp; try with_reducible rfl)
      simp only [Act.put, List.setIfInBounds_toArray, List.set_cons_zero, List.set_cons_succ]
      refine held_take 5 (by kernel_rfl) (by kernel_rfl) (by kernel_rfl) (by kernel_rfl) (fun _ _ d _ _ h => by cases d <;> exact h) HR1.out (fun o ho => ?_)
      simp only [List.getElem?_toArray, List.getElem?_cons_zero, List.getElem?_cons_succ, Option.some.injEq] at ho; subst ho
      refine ⟨_, y_read (by kernel_rfl) 27 _ rfl b1 79 2 rfl p (fun _ h => h) (by omega) _ Tryd.underlying27 rfl size27, ?_⟩
      simp only [Act.put, List.setIfInBounds_toArray, List.set_cons_zero, List.set_cons_succ]
      refine held_take 6 (by kernel_rfl) (by kernel_rfl) (by kernel_rfl) (by kernel_rfl) (fun _ _ d _ _ h => by cases d <;> exact h) HR1.out (fun o ho => ?_)
      simp only [List.getElem?_toArray, List.getElem?_cons_zero, List.getElem?_cons_succ, Option.some.injEq] at ho; subst ho
      apply Exists.intro
      refine ⟨Or.inl ⟨by kernel_rfl, fun w' _ => ?_⟩, ?_⟩
      · (go_simp; try with_reducible rfl)
      simp only [Act.put, List.setIfInBounds_toArray, List.set_cons_zero, List.set_cons_succ]
      refine held_take 7 (by kernel_rfl) (by kernel_rfl) (by kernel_rfl) (by kernel_rfl) (fun _ _ d _ _ h => by cases d <;> exact h) HR1.out (fun o ho => ?_)
      simp only [List.getElem?_toArray, List.getElem?_cons_zero, List.getElem?_cons_succ, Option.some.injEq] at ho; subst ho
      apply Exists.intro
      refine ⟨Or.inl ⟨by kernel_rfl, fun w' _ => ?_⟩, ?_⟩
      · (go_simp; try with_reducible rfl)
      simp only [Act.put, List.setIfInBounds_toArray, List.set_cons_zero, List.set_cons_succ]
      refine held_take 9 (by kernel_rfl) (by kernel_rfl) (by kernel_rfl) (by kernel_rfl) (fun _ _ d _ _ h => by cases d <;> exact h) HR1.out (fun o ho => ?_)
      simp only [List.getElem?_toArray, List.getElem?_cons_zero, List.getElem?_cons_succ, Option.some.injEq] at ho; subst ho
      apply Exists.intro
      refine ⟨Or.inl ⟨by kernel_rfl, fun w' _ => ?_⟩, ?_⟩
      · (go_simp; try with_reducible rfl)
      simp only [Act.put, List.setIfInBounds_toArray, List.set_cons_zero, List.set_cons_succ]
      refine held_do 8 (by kernel_rfl) (by kernel_rfl) (fun o ho => ?_)
      simp only [List.getElem?_toArray, List.getElem?_cons_zero, List.getElem?_cons_succ, Option.some.injEq] at ho; subst ho
      refine ⟨by kernel_rfl, fun K hK => ?_⟩
      refine wp_write 27 _ _ rfl b3 79 2 rfl _ (exP p) (congrArg Value.agg (ex79 p)) HR3.out (by omega) size27 ?_
      intro wn U R
      have HB := Lib.hid (HB.out.trans (U.below HG3.out)); have HR1n := Lib.hid (Row.apart HR1.out U HD13.out); have HR2 := Lib.hid (Row.apart HR2.out U HD23.out); have HR3 := Lib.hid R; clear U R; clear HR1; have HR1 := HR1n; clear HR1n
      refine hK.out _ _ HR1.out ?_
      clear hK K
      simp only [Act.put, List.setIfInBounds_toArray, List.set_cons_zero, List.set_cons_succ]
      refine held_take 10 (by kernel_rfl) (by kernel_rfl) (by kernel_rfl) (by kernel_rfl) (fun _ _ d _ _ h => by cases d <;> exact h) HR1.out (fun o ho => ?_)
      simp only [List.getElem?_toArray, List.getElem?_cons_zero, List.getElem?_cons_succ, Option.some.injEq] at ho; subst ho
      apply Exists.intro
      refine ⟨Or.inl ⟨by kernel_rfl, fun w' _ => ?_⟩, ?_⟩
      · (go_simp; try with_reducible rfl)
      simp only [Act.put, List.setIfInBounds_toArray, List.set_cons_zero, List.set_cons_succ]
      refine held_do 11 (by kernel_rfl) (by kernel_rfl) (fun o ho => ?_)
      simp only [List.getElem?_toArray, List.getElem?_cons_zero, List.getElem?_cons_succ, Option.some.injEq] at ho; subst ho
      refine ⟨by kernel_rfl, fun K hK => ?_⟩
      refine wp_write 27 _ _ rfl b3 81 2 rfl _ (exP p) (congrArg Value.agg (ex81 p)) HR3.out (by omega) size27 ?_
      intro wn U R
      have HB := Lib.hid (HB.out.trans (U.below HG3.out)); have HR1n := Lib.hid (Row.apart HR1.out U HD13.out); have HR2 := Lib.hid (Row.apart HR2.out U HD23.out); have HR3 := Lib.hid R; clear U R; clear HR1; have HR1 := HR1n; clear HR1n
      refine hK.out _ _ HR1.out ?_
      clear hK K
      simp only [Act.put, List.setIfInBounds_toArray, List.set_cons_zero, List.set_cons_succ]
      refine wpAnyH_done (by kernel_rfl) ?_ _
      go_wp2_with fail
      refine wp_region_held_drew (S := fun w' => Row w' b1 p) (by kernel_rfl) HR1.out.drew (fun _ => ?_)
      have HB := Lib.hid HB.out.drew
      have HR1 := Lib.hid HR1.out.drew
      have HR2 := Lib.hid HR2.out.drew
      have HR3 := Lib.hid HR3.out.drew
      refine held_take 0 (by kernel_rfl) (by kernel_rfl) (by kernel_rfl) (by kernel_rfl) (fun _ _ d _ _ h => by cases d <;> exact h) HR1.out (fun o ho => ?_)
      simp only [List.getElem?_toArray, List.getElem?_cons_zero, Option.some.injEq] at ho; subst ho
      apply Exists.intro
      refine ⟨Or.inl ⟨by kernel_rfl, fun w' _ => ?_⟩, ?_⟩
      · (go_simp; try with_reducible rfl)
      simp only [Act.put, List.setIfInBounds_toArray, List.set_cons_zero, List.set_cons_succ]
      refine held_take 1 (by kernel_rfl) (by kernel_rfl) (by kernel_rfl) (by kernel_rfl) (fun _ _ d _ _ h => by cases d <;> exact h) HR1.out (fun o ho => ?_)
      simp only [List.getElem?_toArray, List.getElem?_cons_zero, List.getElem?_cons_succ, Option.some.injEq] at ho; subst ho
      apply Exists.intro
      refine ⟨Or.inl ⟨by kernel_rfl, fun w' _ => ?_⟩, ?_⟩
      · (go_simp; try with_reducible rfl)
      simp only [Act.put, List.setIfInBounds_toArray, List.set_cons_zero, List.set_cons_succ]
      refine held_take 2 (by kernel_rfl) (by kernel_rfl) (by kernel_rfl) (by kernel_rfl) (fun _ _ d _ _ h => by cases d <;> exact h) HR1.out (fun o ho => ?_)
      simp only [List.getElem?_toArray, List.getElem?_cons_zero, List.getElem?_cons_succ, Option.some.injEq] at ho; subst ho
      refine ⟨_, y_cell (by kernel_rfl) _ rfl b1 85 rfl p (fun _ h => h) (by omega) rfl, ?_⟩
      simp only [Act.put, List.setIfInBounds_toArray, List.set_cons_zero, List.set_cons_succ]
      refine held_take 3 (by kernel_rfl) (by kernel_rfl) (by kernel_rfl) (by kernel_rfl) (fun _ _ d _ _ h => by cases d <;> exact h) HR1.out (fun o ho => ?_)
      simp only [List.getElem?_toArray, List.getElem?_cons_zero, List.getElem?_cons_succ, Option.some.injEq] at ho; subst ho
      apply Exists.intro
      refine ⟨Or.inl ⟨by kernel_rfl, fun w' _ => ?_⟩, ?_⟩
      · (go_simp; try with_reducible rfl)
      simp only [Act.put, List.setIfInBounds_toArray, List.set_cons_zero, List.set_cons_succ]
      refine held_take 4 (by kernel_rfl) (by kernel_rfl) (by kernel_rfl) (by kernel_rfl) (fun _ _ d _ _ h => by cases d <;> exact h) HR1.out (fun o ho => ?_)
      simp only [List.getElem?_toArray, List.getElem?_cons_zero, List.getElem?_cons_succ, Option.some.injEq] at ho; subst ho
      apply Exists.intro
      refine ⟨Or.inl ⟨by kernel_rfl, fun w' _ => ?_⟩, ?_⟩
      · (go_simp; try with_reducible rfl)
      simp only [Act.put, List.setIfInBounds_toArray, List.set_cons_zero, List.set_cons_succ]
      refine held_take 5 (by kernel_rfl) (by kernel_rfl) (by kernel_rfl) (by kernel_rfl) (fun _ _ d _ _ h => by cases d <;> exact h) HR1.out (fun o ho => ?_)
      simp only [List.getElem?_toArray, List.getElem?_cons_zero, List.getElem?_cons_succ, Option.some.injEq] at ho; subst ho
      refine ⟨_, y_cell (by kernel_rfl) _ rfl b1 84 rfl p (fun _ h => h) (by omega) rfl, ?_⟩
      simp only [Act.put, List.setIfInBounds_toArray, List.set_cons_zero, List.set_cons_succ]
      refine held_take 6 (by kernel_rfl) (by kernel_rfl) (by kernel_rfl) (by kernel_rfl) (fun _ _ d _ _ h => by cases d <;> exact h) HR1.out (fun o ho => ?_)
      simp only [List.getElem?_toArray, List.getElem?_cons_zero, List.getElem?_cons_succ, Option.some.injEq] at ho; subst ho
      apply Exists.intro
      refine ⟨Or.inl ⟨by kernel_rfl, fun w' _ => ?_⟩, ?_⟩
      · (go_simp; try with_reducible rfl)
      simp only [Act.put, List.setIfInBounds_toArray, List.set_cons_zero, List.set_cons_succ]
      refine held_take 7 (by kernel_rfl) (by kernel_rfl) (by kernel_rfl) (by kernel_rfl) (fun _ _ d _ _ h => by cases d <;> exact h) HR1.out (fun o ho => ?_)
      simp only [List.getElem?_toArray, List.getElem?_cons_zero, List.getElem?_cons_succ, Option.some.injEq] at ho; subst ho
      apply Exists.intro
      refine ⟨Or.inl ⟨by kernel_rfl, fun w' _ => ?_⟩, ?_⟩
      · (go_simp; try with_reducible rfl)
      simp only [Act.put, List.setIfInBounds_toArray, List.set_cons_zero, List.set_cons_succ]
      refine held_take 9 (by kernel_rfl) (by kernel_rfl) (by kernel_rfl) (by kernel_rfl) (fun _ _ d _ _ h => by cases d <;> exact h) HR1.out (fun o ho => ?_)
      simp only [List.getElem?_toArray, List.getElem?_cons_zero, List.getElem?_cons_succ, Option.some.injEq] at ho; subst ho
      apply Exists.intro
      refine ⟨Or.inl ⟨by kernel_rfl, fun w' _ => ?_⟩, ?_⟩
      · (go_simp; try with_reducible rfl)
      simp only [Act.put, List.setIfInBounds_toArray, List.set_cons_zero, List.set_cons_succ]
      refine held_do 8 (by kernel_rfl) (by kernel_rfl) (fun o ho => ?_)
      simp only [List.getElem?_toArray, List.getElem?_cons_zero, List.getElem?_cons_succ, Option.some.injEq] at ho; subst ho
      refine ⟨by kernel_rfl, fun K hK => ?_⟩
      refine wp_one 5 _ _ rfl b3 84 rfl _ _ rfl _ HR3.out (by omega) rfl size5 ?_
      intro wn U R
      have HB := Lib.hid (HB.out.trans (U.below HG3.out)); have HR1n := Lib.hid (Row.apart HR1.out U HD13.out); have HR2 := Lib.hid (Row.apart HR2.out U HD23.out); have HR3 := Lib.hid R; clear U R; clear HR1; have HR1 := HR1n; clear HR1n
      refine hK.out _ _ HR1.out ?_
      clear hK K
      simp only [Act.put, List.setIfInBounds_toArray, List.set_cons_zero, List.set_cons_succ]
      refine held_take 10 (by kernel_rfl) (by kernel_rfl) (by kernel_rfl) (by kernel_rfl) (fun _ _ d _ _ h => by cases d <;> exact h) HR1.out (fun o ho => ?_)
      simp only [List.getElem?_toArray, List.getElem?_cons_zero, List.getElem?_cons_succ, Option.some.injEq] at ho; subst ho
      apply Exists.intro
      refine ⟨Or.inl ⟨by kernel_rfl, fun w' _ => ?_⟩, ?_⟩
      · (go_simp; try with_reducible rfl)
      simp only [Act.put, List.setIfInBounds_toArray, List.set_cons_zero, List.set_cons_succ]
      refine held_do 11 (by kernel_rfl) (by kernel_rfl) (fun o ho => ?_)
      simp only [List.getElem?_toArray, List.getElem?_cons_zero, List.getElem?_cons_succ, Option.some.injEq] at ho; subst ho
      refine ⟨by kernel_rfl, fun K hK => ?_⟩
      refine wp_one 5 _ _ rfl b3 85 rfl _ _ rfl _ HR3.out (by omega) rfl size5 ?_
      intro wn U R
      have HB := Lib.hid (HB.out.trans (U.below HG3.out)); have HR1n := Lib.hid (Row.apart HR1.out U HD13.out); have HR2 := Lib.hid (Row.apart HR2.out U HD23.out); have HR3 := Lib.hid R; clear U R; clear HR1; have HR1 := HR1n; clear HR1n
      refine hK.out _ _ HR1.out ?_
      clear hK K
      simp only [Act.put, List.setIfInBounds_toArray, List.set_cons_zero, List.set_cons_succ]
      refine wpAnyH_done (by kernel_rfl) ?_ _
      obtain ⟨u0, u1⟩ := HP.out.turn
      obtain ⟨v0, v1⟩ := HP.out.pass
      by_cases t1 : p 78 ≤ 1
      · by_cases t2 : p 78 = 0
        · cases g : sq (p 83)
          · have HE0 := mir_yn (p := p) t1 g
            rw [mir5_m HM.out, ← rmir5_eq] at HE0
            rw [t2] at HE0
            have HT78 := Lib.hid t2
            obtain ⟨s, hs⟩ : ∃ s : Int, p 83 = s := ⟨_, rfl⟩
            have HT83 := Lib.hid hs
            rw [hs] at g v0 v1
            clear hs
            have hs2 := sq_false.1 g
            clear g
            have HE := Lib.hid HE0
            clear HE0
            by_cases s0 : 0 ≤ s
            · have d2 : decide (0 ≤ s) = true := decide_eq_true s0
              have d3 : decide (s < 64) = false := decide_eq_false (by omega)
              clear hs2
              have hc78 := HR1.out.cell 78 (by omega)
              have hc83 := HR1.out.cell 83 (by omega)
              rw [HK78.out, HT78.out] at hc78
              rw [HK83.out, HT83.out] at hc83
              go_wp2_with (first
        | (refine step_cell rfl 5 _ _ rfl _ _ rfl _ _ rfl _ HR3.out (by omega) rfl size5 ?_; clear hc78 hc83; intro wn U R; have HR1 := Lib.hid (HR1.out.apart U HD13.out); have hc83 := HR1.out.cell 83 (by omega); rw [HK83.out, HT83.out] at hc83; have HR2 := Lib.hid (HR2.out.apart U HD23.out); have HR3 := Lib.hid R; have HB := Lib.hid (HB.out.trans (U.below HG3.out)); clear U R)
        | (refine step_load rfl _ rfl _ rfl _ HR3.out ?_)
        | (refine step_store rfl _ _ rfl _ rfl _ _ rfl HR2.out ?_; intro wn U R; have HR2 := Lib.hid R; have HB := Lib.hid (HB.out.trans (U.below HG2.out)); clear U R))
              refine bodyPost_ret (v := .agg (posA (mirP p))) (results_eq rfl _ _ _ _ _ rfl HR2.out HE.out) rfl ⟨rfl, HB.out⟩
            · have d2 : decide (0 ≤ s) = false := decide_eq_false s0
              clear hs2
              have hc78 := HR1.out.cell 78 (by omega)
              have hc83 := HR1.out.cell 83 (by omega)
              rw [HK78.out, HT78.out] at hc78
              rw [HK83.out, HT83.out] at hc83
              go_wp2_with (first
        | (refine step_cell rfl 5 _ _ rfl _ _ rfl _ _ rfl _ HR3.out (by omega) rfl size5 ?_; clear hc78 hc83; intro wn U R; have HR1 := Lib.hid (HR1.out.apart U HD13.out); have hc83 := HR1.out.cell 83 (by omega); rw [HK83.out, HT83.out] at hc83; have HR2 := Lib.hid (HR2.out.apart U HD23.out); have HR3 := Lib.hid R; have HB := Lib.hid (HB.out.trans (U.below HG3.out)); clear U R)
        | (refine step_load rfl _ rfl _ rfl _ HR3.out ?_)
        | (refine step_store rfl _ _ rfl _ rfl _ _ rfl HR2.out ?_; intro wn U R; have HR2 := Lib.hid R; have HB := Lib.hid (HB.out.trans (U.below HG2.out)); clear U R))
              refine bodyPost_ret (v := .agg (posA (mirP p))) (results_eq rfl _ _ _ _ _ rfl HR2.out HE.out) rfl ⟨rfl, HB.out⟩
          · have HE0 := mir_yy (p := p) t1 g
            rw [mir5_m HM.out, ← rmir5_eq] at HE0
            rw [t2] at HE0
            have HT78 := Lib.hid t2
            obtain ⟨s, hs⟩ : ∃ s : Int, p 83 = s := ⟨_, rfl⟩
            have HT83 := Lib.hid hs
            rw [hs] at g HE0 v0 v1
            clear hs
            have s0 : 0 ≤ s := (sq_true.1 g).1
            have s1 : s < 64 := (sq_true.1 g).2
            rw [← pass_wrap s0 s1] at HE0
            have hfl : 8 * (7 - s / 8) + s % 8 = flipS s := rfl
            have s2 : 0 ≤ flipS s := by unfold flipS; omega
            have s3 : flipS s < 64 := by unfold flipS; omega
            have q0 : 0 ≤ s / 8 := by omega
            have q1 : s / 8 ≤ 7 := by omega
            have q2 : 0 ≤ s % 8 := by omega
            have q3 : s % 8 ≤ 7 := by omega
            obtain ⟨z, Hz⟩ : ∃ z, Hid (flipS s = z) := ⟨_, Lib.hid rfl⟩
            rw [Hz.out] at hfl s2 s3
            clear g
            have HE := Lib.hid HE0
            clear HE0
            have hc78 := HR1.out.cell 78 (by omega)
            have hc83 := HR1.out.cell 83 (by omega)
            rw [HK78.out, HT78.out] at hc78
            rw [HK83.out, HT83.out] at hc83
            go_wp2_with (first
        | (refine step_cell rfl 5 _ _ rfl _ _ rfl _ _ rfl _ HR3.out (by omega) rfl size5 ?_; clear hc78 hc83; intro wn U R; have HR1 := Lib.hid (HR1.out.apart U HD13.out); have hc83 := HR1.out.cell 83 (by omega); rw [HK83.out, HT83.out] at hc83; have HR2 := Lib.hid (HR2.out.apart U HD23.out); have HR3 := Lib.hid R; have HB := Lib.hid (HB.out.trans (U.below HG3.out)); clear U R)
        | (refine step_cell rfl 26 _ _ rfl _ _ rfl _ _ rfl _ HR3.out (by omega) rfl size26 ?_; clear hc83; intro wn U R; have HR1 := Lib.hid (HR1.out.apart U HD13.out); have HR2 := Lib.hid (HR2.out.apart U HD23.out); have HR3 := Lib.hid R; have HB := Lib.hid (HB.out.trans (U.below HG3.out)); clear U R)
        | (refine step_load rfl _ rfl _ rfl _ HR3.out ?_)
        | (refine step_store rfl _ _ rfl _ rfl _ _ rfl HR2.out ?_; intro wn U R; have HR2 := Lib.hid R; have HB := Lib.hid (HB.out.trans (U.below HG2.out)); clear U R))
            refine bodyPost_ret (v := .agg (posA (mirP p))) (results_eq rfl _ _ _ _ _ rfl HR2.out HE.out) rfl ⟨rfl, HB.out⟩
        · replace t2 : p 78 = 1 := by omega
          cases g : sq (p 83)
          · have HE0 := mir_yn (p := p) t1 g
            rw [mir5_m HM.out, ← rmir5_eq] at HE0
            rw [t2] at HE0
            have HT78 := Lib.hid t2
            obtain ⟨s, hs⟩ : ∃ s : Int, p 83 = s := ⟨_, rfl⟩
            have HT83 := Lib.hid hs
            rw [hs] at g v0 v1
            clear hs
            have hs2 := sq_false.1 g
            clear g
            have HE := Lib.hid HE0
            clear HE0
            by_cases s0 : 0 ≤ s
            · have d2 : decide (0 ≤ s) = true := decide_eq_true s0
              have d3 : decide (s < 64) = false := decide_eq_false (by omega)
              clear hs2
              have hc78 := HR1.out.cell 78 (by omega)
              have hc83 := HR1.out.cell 83 (by omega)
              rw [HK78.out, HT78.out] at hc78
              rw [HK83.out, HT83.out] at hc83
              go_wp2_with (first
        | (refine step_cell rfl 5 _ _ rfl _ _ rfl _ _ rfl _ HR3.out (by omega) rfl size5 ?_; clear hc78 hc83; intro wn U R; have HR1 := Lib.hid (HR1.out.apart U HD13.out); have hc83 := HR1.out.cell 83 (by omega); rw [HK83.out, HT83.out] at hc83; have HR2 := Lib.hid (HR2.out.apart U HD23.out); have HR3 := Lib.hid R; have HB := Lib.hid (HB.out.trans (U.below HG3.out)); clear U R)
        | (refine step_load rfl _ rfl _ rfl _ HR3.out ?_)
        | (refine step_store rfl _ _ rfl _ rfl _ _ rfl HR2.out ?_; intro wn U R; have HR2 := Lib.hid R; have HB := Lib.hid (HB.out.trans (U.below HG2.out)); clear U R))
              refine bodyPost_ret (v := .agg (posA (mirP p))) (results_eq rfl _ _ _ _ _ rfl HR2.out HE.out) rfl ⟨rfl, HB.out⟩
            · have d2 : decide (0 ≤ s) = false := decide_eq_false s0
              clear hs2
              have hc78 := HR1.out.cell 78 (by omega)
              have hc83 := HR1.out.cell 83 (by omega)
              rw [HK78.out, HT78.out] at hc78
              rw [HK83.out, HT83.out] at hc83
              go_wp2_with (first
        | (refine step_cell rfl 5 _ _ rfl _ _ rfl _ _ rfl _ HR3.out (by omega) rfl size5 ?_; clear hc78 hc83; intro wn U R; have HR1 := Lib.hid (HR1.out.apart U HD13.out); have hc83 := HR1.out.cell 83 (by omega); rw [HK83.out, HT83.out] at hc83; have HR2 := Lib.hid (HR2.out.apart U HD23.out); have HR3 := Lib.hid R; have HB := Lib.hid (HB.out.trans (U.below HG3.out)); clear U R)
        | (refine step_load rfl _ rfl _ rfl _ HR3.out ?_)
        | (refine step_store rfl _ _ rfl _ rfl _ _ rfl HR2.out ?_; intro wn U R; have HR2 := Lib.hid R; have HB := Lib.hid (HB.out.trans (U.below HG2.out)); clear U R))
              refine bodyPost_ret (v := .agg (posA (mirP p))) (results_eq rfl _ _ _ _ _ rfl HR2.out HE.out) rfl ⟨rfl, HB.out⟩
          · have HE0 := mir_yy (p := p) t1 g
            rw [mir5_m HM.out, ← rmir5_eq] at HE0
            rw [t2] at HE0
            have HT78 := Lib.hid t2
            obtain ⟨s, hs⟩ : ∃ s : Int, p 83 = s := ⟨_, rfl⟩
            have HT83 := Lib.hid hs
            rw [hs] at g HE0 v0 v1
            clear hs
            have s0 : 0 ≤ s := (sq_true.1 g).1
            have s1 : s < 64 := (sq_true.1 g).2
            rw [← pass_wrap s0 s1] at HE0
            have hfl : 8 * (7 - s / 8) + s % 8 = flipS s := rfl
            have s2 : 0 ≤ flipS s := by unfold flipS; omega
            have s3 : flipS s < 64 := by unfold flipS; omega
            have q0 : 0 ≤ s / 8 := by omega
            have q1 : s / 8 ≤ 7 := by omega
            have q2 : 0 ≤ s % 8 := by omega
            have q3 : s % 8 ≤ 7 := by omega
            obtain ⟨z, Hz⟩ : ∃ z, Hid (flipS s = z) := ⟨_, Lib.hid rfl⟩
            rw [Hz.out] at hfl s2 s3
            clear g
            have HE := Lib.hid HE0
            clear HE0
            have hc78 := HR1.out.cell 78 (by omega)
            have hc83 := HR1.out.cell 83 (by omega)
            rw [HK78.out, HT78.out] at hc78
            rw [HK83.out, HT83.out] at hc83
            go_wp2_with (first
        | (refine step_cell rfl 5 _ _ rfl _ _ rfl _ _ rfl _ HR3.out (by omega) rfl size5 ?_; clear hc78 hc83; intro wn U R; have HR1 := Lib.hid (HR1.out.apart U HD13.out); have hc83 := HR1.out.cell 83 (by omega); rw [HK83.out, HT83.out] at hc83; have HR2 := Lib.hid (HR2.out.apart U HD23.out); have HR3 := Lib.hid R; have HB := Lib.hid (HB.out.trans (U.below HG3.out)); clear U R)
        | (refine step_cell rfl 26 _ _ rfl _ _ rfl _ _ rfl _ HR3.out (by omega) rfl size26 ?_; clear hc83; intro wn U R; have HR1 := Lib.hid (HR1.out.apart U HD13.out); have HR2 := Lib.hid (HR2.out.apart U HD23.out); have HR3 := Lib.hid R; have HB := Lib.hid (HB.out.trans (U.below HG3.out)); clear U R)
        | (refine step_load rfl _ rfl _ rfl _ HR3.out ?_)
        | (refine step_store rfl _ _ rfl _ rfl _ _ rfl HR2.out ?_; intro wn U R; have HR2 := Lib.hid R; have HB := Lib.hid (HB.out.trans (U.below HG2.out)); clear U R))
            refine bodyPost_ret (v := .agg (posA (mirP p))) (results_eq rfl _ _ _ _ _ rfl HR2.out HE.out) rfl ⟨rfl, HB.out⟩
      · cases g : sq (p 83)
        · have HE0 := mir_nn (p := p) t1 g
          rw [mir5_m HM.out, ← rmir5_eq] at HE0
          obtain ⟨tt, HT78⟩ : ∃ tt, Hid (p 78 = tt) := ⟨_, Lib.hid rfl⟩
          rw [HT78.out] at t1 u0 u1
          have d0 : (tt == 0) = false := by simp; omega
          have d1 : (tt == 1) = false := by simp; omega
          obtain ⟨s, hs⟩ : ∃ s : Int, p 83 = s := ⟨_, rfl⟩
          have HT83 := Lib.hid hs
          rw [hs] at g v0 v1
          clear hs
          have hs2 := sq_false.1 g
          clear g
          have HE := Lib.hid HE0
          clear HE0
          by_cases s0 : 0 ≤ s
          · have d2 : decide (0 ≤ s) = true := decide_eq_true s0
            have d3 : decide (s < 64) = false := decide_eq_false (by omega)
            clear hs2
            have hc78 := HR1.out.cell 78 (by omega)
            have hc83 := HR1.out.cell 83 (by omega)
            rw [HK78.out, HT78.out] at hc78
            rw [HK83.out, HT83.out] at hc83
            go_wp2_with (first
        | (refine step_load rfl _ rfl _ rfl _ HR3.out ?_)
        | (refine step_store rfl _ _ rfl _ rfl _ _ rfl HR2.out ?_; intro wn U R; have HR2 := Lib.hid R; have HB := Lib.hid (HB.out.trans (U.below HG2.out)); clear U R))
            refine bodyPost_ret (v := .agg (posA (mirP p))) (results_eq rfl _ _ _ _ _ rfl HR2.out HE.out) rfl ⟨rfl, HB.out⟩
          · have d2 : decide (0 ≤ s) = false := decide_eq_false s0
            clear hs2
            have hc78 := HR1.out.cell 78 (by omega)
            have hc83 := HR1.out.cell 83 (by omega)
            rw [HK78.out, HT78.out] at hc78
            rw [HK83.out, HT83.out] at hc83
            go_wp2_with (first
        | (refine step_load rfl _ rfl _ rfl _ HR3.out ?_)
        | (refine step_store rfl _ _ rfl _ rfl _ _ rfl HR2.out ?_; intro wn U R; have HR2 := Lib.hid R; have HB := Lib.hid (HB.out.trans (U.below HG2.out)); clear U R))
            refine bodyPost_ret (v := .agg (posA (mirP p))) (results_eq rfl _ _ _ _ _ rfl HR2.out HE.out) rfl ⟨rfl, HB.out⟩
        · have HE0 := mir_ny (p := p) t1 g
          rw [mir5_m HM.out, ← rmir5_eq] at HE0
          obtain ⟨tt, HT78⟩ : ∃ tt, Hid (p 78 = tt) := ⟨_, Lib.hid rfl⟩
          rw [HT78.out] at t1 u0 u1
          have d0 : (tt == 0) = false := by simp; omega
          have d1 : (tt == 1) = false := by simp; omega
          obtain ⟨s, hs⟩ : ∃ s : Int, p 83 = s := ⟨_, rfl⟩
          have HT83 := Lib.hid hs
          rw [hs] at g HE0 v0 v1
          clear hs
          have s0 : 0 ≤ s := (sq_true.1 g).1
          have s1 : s < 64 := (sq_true.1 g).2
          rw [← pass_wrap s0 s1] at HE0
          have hfl : 8 * (7 - s / 8) + s % 8 = flipS s := rfl
          have s2 : 0 ≤ flipS s := by unfold flipS; omega
          have s3 : flipS s < 64 := by unfold flipS; omega
          have q0 : 0 ≤ s / 8 := by omega
          have q1 : s / 8 ≤ 7 := by omega
          have q2 : 0 ≤ s % 8 := by omega
          have q3 : s % 8 ≤ 7 := by omega
          obtain ⟨z, Hz⟩ : ∃ z, Hid (flipS s = z) := ⟨_, Lib.hid rfl⟩
          rw [Hz.out] at hfl s2 s3
          clear g
          have HE := Lib.hid HE0
          clear HE0
          have hc78 := HR1.out.cell 78 (by omega)
          have hc83 := HR1.out.cell 83 (by omega)
          rw [HK78.out, HT78.out] at hc78
          rw [HK83.out, HT83.out] at hc83
          go_wp2_with (first
        | (refine step_cell rfl 26 _ _ rfl _ _ rfl _ _ rfl _ HR3.out (by omega) rfl size26 ?_; clear hc83; intro wn U R; have HR1 := Lib.hid (HR1.out.apart U HD13.out); have HR2 := Lib.hid (HR2.out.apart U HD23.out); have HR3 := Lib.hid R; have HB := Lib.hid (HB.out.trans (U.below HG3.out)); clear U R)
        | (refine step_load rfl _ rfl _ rfl _ HR3.out ?_)
        | (refine step_store rfl _ _ rfl _ rfl _ _ rfl HR2.out ?_; intro wn U R; have HR2 := Lib.hid R; have HB := Lib.hid (HB.out.trans (U.below HG2.out)); clear U R))
          refine bodyPost_ret (v := .agg (posA (mirP p))) (results_eq rfl _ _ _ _ _ rfl HR2.out HE.out) rfl ⟨rfl, HB.out⟩
end Go.Proofs.YtgodoipmnenohaaDoor
