/-
  Contracts of the program's shuffled, both, Start960.
-/
import Derived.Test.YtjbfjohgfbipgaaGreatDoorRuArmy
import Derived.Test.YtjbfjohgfbipgaaGreatDoorFnBaseC
namespace Go.Proofs.YtjbfjohgfbipgaaGreatDoor
open Go.RowKit
set_option linter.unusedVariables false
set_option linter.unusedSimpArgs false
theorem placed_int (r : Nat → Int) (c : Nat) (ci x : Int) (w : World) (hc : c ≤ 8) (he : ci = (c : Int)) : Calls Tryz.prog 106 #[.agg (arrA 8 .u8 r), .int .i64 ci, .int .u8 x] w (RowL (placeR r c x) w) := by
  subst he; exact placed_any r c x w hc
theorem kn_le (k : Nat) (hk : k < 10) : knA k ≤ 8 ∧ knB k ≤ 8 := by
  have key : ∀ k : Fin 10, knA k.val ≤ 8 ∧ knB k.val ≤ 8 := by decide +kernel
  exact key ⟨k, hk⟩
theorem kn_A (k : Nat) {w : World} (h : TabKn w) (hk : k < 10) : w.cell? ⟨2, k * 2, none⟩ = some (.int .i64 ((knA k : Nat) : Int)) := h k hk 0 _ rfl
theorem kn_B (k : Nat) {w : World} (h : TabKn w) (hk : k < 10) : w.cell? ⟨2, k * 2 + 1, none⟩ = some (.int .i64 ((knB k : Nat) : Int)) := h k hk 1 _ rfl
def sh1 (n : Nat) : Nat → Int := upd zeroP (2 * (n % 4) + 1) 3
def sh2 (n : Nat) : Nat → Int := upd (sh1 n) (2 * (n / 4 % 4)) 3
def sh3 (n : Nat) : Nat → Int := placeR (sh2 n) (n / 4 / 4 % 6) 5
def sh4 (n k : Nat) : Nat → Int := placeR (sh3 n) (knB k) 2
def sh5 (n k : Nat) : Nat → Int := placeR (sh4 n k) (knA k) 2
/-- The rooks and the king, in order. -/
def sh6 (n k : Nat) : Nat → Nat → Int
  | 0 => sh5 n k
  | i + 1 => placeR (sh6 n k i) 0 (([4, 6, 4].getD i 0 : Nat) : Int)
theorem sh_all (n : Nat) : sh6 n (n / 4 / 4 / 6) 3 = rowZ n := rfl
theorem three_at (j : Nat) (h : j < 3) : (#[.int .u8 4, .int .u8 6, .int .u8 4] : Array Value)[j]? = some (.int .u8 (([4, 6, 4].getD j 0 : Nat) : Int)) := by
  match j, h with
  | 0, _ => rfl
  | 1, _ => rfl
  | 2, _ => rfl
theorem size72 : (Tryz.prog.info? 125).map (·.size) = some 3 := by kernel_rfl
set_option maxRecDepth 100000 in
set_option maxHeartbeats 2000000 in
theorem shuf_any (n : Nat) (w : World) (hn : n < 960) (hT : TabKn w) : Calls Tryz.prog 76 #[.int .i64 (n : Int)] w (RowL (rowZ n) w) := by
  have HT := Lib.hid hT
  clear hT
  obtain ⟨k, Hk⟩ : ∃ k, Hid (n / 4 / 4 / 6 = k) := ⟨_, Lib.hid rfl⟩
  have hk : k < 10 := by have := Hk.out; omega
  have l1 : (k : Int) < 10 := by omega
  have HE := Lib.hid (show sh6 n k 3 = rowZ n by rw [← Hk.out]; exact sh_all n)
  go_enter Tryz.func76, Tryz.ntmps76
  go_wp2_with (first
    | (refine arr_alloc (op := ⟨some 2, _, _, _, _, _⟩) rfl 67 rfl 8 .u8 zero58 ?_; intro b2 w1 N R; have HG2 := Lib.hid (Nat.le_of_eq N.at_.symm); have HR2 := Lib.hid R; have HB := Lib.hid N.below; clear N R)
    | (refine arr_alloc rfl 67 rfl 8 .u8 zero58 ?_; intro b3 w1 N R; have HG3 := Lib.hid (show w.heap.size ≤ b3 by have := N.at_; have := HB.out.size; omega); have HD23 := Lib.hid (show b2 ≠ b3 by have := N.at_; have := HR2.out.lt; omega); have HR2 := Lib.hid (HR2.out.later N.below); have HR3 := Lib.hid R; have HB := Lib.hid (below_on HB.out N.below); clear N R)
    | (refine arr_cell rfl 5 _ _ rfl b3 (2 * (n % 4) + 1) rfl .u8 3 rfl 67 8 zeroP ?_ (by omega) size5 ?_; exact HR3.out; intro w2 U R; have HR2 := Lib.hid (HR2.out.apart U HD23.out); have HR3 := Lib.hid (show Blk _ b3 67 (arrA 8 .u8 (sh1 n)) from R); have HB := Lib.hid (HB.out.trans (U.below HG3.out)); clear U R)
    | (refine arr_cell rfl 5 _ _ rfl b3 (2 * (n / 4 % 4)) rfl .u8 3 rfl 67 8 (sh1 n) ?_ (by omega) size5 ?_; exact HR3.out; intro w2 U R; have HR2 := Lib.hid (HR2.out.apart U HD23.out); have HR3 := Lib.hid (show Blk _ b3 67 (arrA 8 .u8 (sh2 n)) from R); have HB := Lib.hid (HB.out.trans (U.below HG3.out)); clear U R)
    | (refine arr_load rfl 67 _ rfl b3 rfl 8 .u8 (sh2 n) ?_ _ Tryz.underlying67 rfl size58 ?_; exact HR3.out))
  refine (placed_int (sh2 n) (n / 4 / 4 % 6) _ 5 _ (by omega) (by omega)).mono ?_; rintro e wn ⟨rfl, hb⟩; have HR2 := Lib.hid (HR2.out.later hb); have HR3 := Lib.hid (HR3.out.later hb); have HB := Lib.hid (below_on HB.out hb); clear hb
  go_wp2_with (refine arr_store rfl 67 _ _ rfl b3 rfl 8 .u8 (sh2 n) (sh3 n) rfl ?_ size58 ?_; exact HR3.out; intro w2 U R; have HR2 := Lib.hid (HR2.out.apart U HD23.out); have HR3 := Lib.hid R; have HB := Lib.hid (HB.out.trans (U.below HG3.out)); clear U R)
  rw [show ((n : Int) / 4 / 4 / 6) = (k : Int) by have := Hk.out; omega]
  refine late_begin 6 (by kernel_rfl) ?_
  refine late_take 0 (by kernel_rfl) (by kernel_rfl) (by kernel_rfl) (by kernel_rfl) (by kernel_rfl) (fun _ _ d _ _ h => by cases d <;> exact h) (fun o ho => ?_)
  simp only [List.getElem?_toArray, List.getElem?_cons_zero, List.getElem?_cons_succ, Option.some.injEq] at ho; subst ho
  refine ⟨_, Or.inl ⟨by kernel_rfl, fun w' hl => Or.inl (run_blk 67 _ rfl _ rfl (arrA 8 .u8 (sh3 n)) (HR3.out.later hl) _ Tryz.underlying67 rfl (by rw [arrA_size]; exact size58))⟩, ?_⟩
  simp only [Act.put, List.setIfInBounds_toArray, List.set_cons_zero, List.set_cons_succ]
  refine late_take 1 (by kernel_rfl) (by kernel_rfl) (by kernel_rfl) (by kernel_rfl) (by kernel_rfl) (fun _ _ d _ _ h => by cases d <;> exact h) (fun o ho => ?_)
  simp only [List.getElem?_toArray, List.getElem?_cons_zero, List.getElem?_cons_succ, Option.some.injEq] at ho; subst ho
  apply Exists.intro
  refine ⟨Or.inl ⟨by kernel_rfl, fun w' hl => Or.inl ?_⟩, ?_⟩
  · (go_simp; try with_reducible rfl)
  simp only [Act.put, List.setIfInBounds_toArray, List.set_cons_zero, List.set_cons_succ]
  refine late_take 2 (by kernel_rfl) (by kernel_rfl) (by kernel_rfl) (by kernel_rfl) (by kernel_rfl) (fun _ _ d _ _ h => by cases d <;> exact h) (fun o ho => ?_)
  simp only [List.getElem?_toArray, List.getElem?_cons_zero, List.getElem?_cons_succ, Option.some.injEq] at ho; subst ho
  apply Exists.intro
  refine ⟨Or.inl ⟨by kernel_rfl, fun w' hl => Or.inl ?_⟩, ?_⟩
  · (go_simp; try with_reducible rfl)
  simp only [Act.put, List.setIfInBounds_toArray, List.set_cons_zero, List.set_cons_succ]
  refine late_take 3 (by kernel_rfl) (by kernel_rfl) (by kernel_rfl) (by kernel_rfl) (by kernel_rfl) (fun _ _ d _ _ h => by cases d <;> exact h) (fun o ho => ?_)
  simp only [List.getElem?_toArray, List.getElem?_cons_zero, List.getElem?_cons_succ, Option.some.injEq] at ho; subst ho
  apply Exists.intro
  refine ⟨Or.inl ⟨by kernel_rfl, fun w' hl => Or.inl ?_⟩, ?_⟩
  · (go_simp; try with_reducible rfl)
  simp only [Act.put, List.setIfInBounds_toArray, List.set_cons_zero, List.set_cons_succ]
  refine late_take 4 (by kernel_rfl) (by kernel_rfl) (by kernel_rfl) (by kernel_rfl) (by kernel_rfl) (fun _ _ d _ _ h => by cases d <;> exact h) (fun o ho => ?_)
  simp only [List.getElem?_toArray, List.getElem?_cons_zero, List.getElem?_cons_succ, Option.some.injEq] at ho; subst ho
  refine ⟨_, Or.inl ⟨by kernel_rfl, fun w' hl => Or.inl (run_get 3 _ rfl 2 (k * 2 + 1) rfl Tryz.underlying3 rfl (.int .i64 ((knB k : Nat) : Int)) (kn_B k ((HT.out.on HB.out).on hl) hk))⟩, ?_⟩
  simp only [Act.put, List.setIfInBounds_toArray, List.set_cons_zero, List.set_cons_succ]
  refine late_one 5 (by kernel_rfl) (by kernel_rfl) (fun o ho => ?_)
  simp only [List.getElem?_toArray, List.getElem?_cons_zero, List.getElem?_cons_succ, Option.some.injEq] at ho; subst ho
  refine ⟨by kernel_rfl, fun wn hl K hK => ?_⟩
  have HR2 := Lib.hid (HR2.out.later hl); have HR3 := Lib.hid (HR3.out.later hl); have HB := Lib.hid (below_on HB.out hl); clear hl
  refine wp_enter _ _ (by go_simp; exact ⟨rfl, rfl⟩) ?_
  refine (placed_int (sh3 n) (knB k) _ 2 _ (kn_le k hk).2 rfl).mono ?_; rintro e wm ⟨rfl, hb⟩; refine ⟨_, rfl, ?_⟩
  refine hK.out _ _ hb ?_
  have HR2 := Lib.hid (HR2.out.later hb); have HR3 := Lib.hid (HR3.out.later hb); have HB := Lib.hid (below_on HB.out hb); clear hb
  clear hK K
  simp only [Act.put, List.setIfInBounds_toArray, List.set_cons_zero, List.set_cons_succ]
  refine late_last 6 (by kernel_rfl) (by kernel_rfl) (by kernel_rfl) (fun o ho => ?_)
  simp only [List.getElem?_toArray, List.getElem?_cons_zero, List.getElem?_cons_succ, Option.some.injEq] at ho; subst ho
  refine ⟨by kernel_rfl, fun wn hl K hK => ?_⟩
  have HR2 := Lib.hid (HR2.out.later hl); have HR3 := Lib.hid (HR3.out.later hl); have HB := Lib.hid (below_on HB.out hl); clear hl
  refine late_arr 67 _ _ rfl b3 rfl 8 .u8 (sh3 n) (sh4 n k) rfl HR3.out size58 ?_; intro wm U R
  have HR2 := Lib.hid (HR2.out.apart U HD23.out)
  have HR3 := Lib.hid R; have HB := Lib.hid (HB.out.trans (U.below HG3.out)); clear U R
  refine hK.out _ _ ?_
  clear hK K
  simp only [Act.put, List.setIfInBounds_toArray, List.set_cons_zero, List.set_cons_succ]
  go_wp2_with fail
  refine late_begin 6 (by kernel_rfl) ?_
  refine late_take 0 (by kernel_rfl) (by kernel_rfl) (by kernel_rfl) (by kernel_rfl) (by kernel_rfl) (fun _ _ d _ _ h => by cases d <;> exact h) (fun o ho => ?_)
  simp only [List.getElem?_toArray, List.getElem?_cons_zero, List.getElem?_cons_succ, Option.some.injEq] at ho; subst ho
  refine ⟨_, Or.inl ⟨by kernel_rfl, fun w' hl => Or.inl (run_blk 67 _ rfl _ rfl (arrA 8 .u8 (sh4 n k)) (HR3.out.later hl) _ Tryz.underlying67 rfl (by rw [arrA_size]; exact size58))⟩, ?_⟩
  simp only [Act.put, List.setIfInBounds_toArray, List.set_cons_zero, List.set_cons_succ]
  refine late_take 1 (by kernel_rfl) (by kernel_rfl) (by kernel_rfl) (by kernel_rfl) (by kernel_rfl) (fun _ _ d _ _ h => by cases d <;> exact h) (fun o ho => ?_)
  simp only [List.getElem?_toArray, List.getElem?_cons_zero, List.getElem?_cons_succ, Option.some.injEq] at ho; subst ho
  apply Exists.intro
  refine ⟨Or.inl ⟨by kernel_rfl, fun w' hl => Or.inl ?_⟩, ?_⟩
  · (go_simp; try with_reducible rfl)
  simp only [Act.put, List.setIfInBounds_toArray, List.set_cons_zero, List.set_cons_succ]
  refine late_take 2 (by kernel_rfl) (by kernel_rfl) (by kernel_rfl) (by kernel_rfl) (by kernel_rfl) (fun _ _ d _ _ h => by cases d <;> exact h) (fun o ho => ?_)
  simp only [List.getElem?_toArray, List.getElem?_cons_zero, List.getElem?_cons_succ, Option.some.injEq] at ho; subst ho
  apply Exists.intro
  refine ⟨Or.inl ⟨by kernel_rfl, fun w' hl => Or.inl ?_⟩, ?_⟩
  · (go_simp; try with_reducible rfl)
  simp only [Act.put, List.setIfInBounds_toArray, List.set_cons_zero, List.set_cons_succ]
  refine late_take 3 (by kernel_rfl) (by kernel_rfl) (by kernel_rfl) (by kernel_rfl) (by kernel_rfl) (fun _ _ d _ _ h => by cases d <;> exact h) (fun o ho => ?_)
  simp only [List.getElem?_toArray, List.getElem?_cons_zero, List.getElem?_cons_succ, Option.some.injEq] at ho; subst ho
  apply Exists.intro
  refine ⟨Or.inl ⟨by kernel_rfl, fun w' hl => Or.inl ?_⟩, ?_⟩
  · (go_simp; try with_reducible rfl)
  simp only [Act.put, List.setIfInBounds_toArray, List.set_cons_zero, List.set_cons_succ]
  refine late_take 4 (by kernel_rfl) (by kernel_rfl) (by kernel_rfl) (by kernel_rfl) (by kernel_rfl) (fun _ _ d _ _ h => by cases d <;> exact h) (fun o ho => ?_)
  simp only [List.getElem?_toArray, List.getElem?_cons_zero, List.getElem?_cons_succ, Option.some.injEq] at ho; subst ho
  refine ⟨_, Or.inl ⟨by kernel_rfl, fun w' hl => Or.inl (run_get 3 _ rfl 2 (k * 2) rfl Tryz.underlying3 rfl (.int .i64 ((knA k : Nat) : Int)) (kn_A k ((HT.out.on HB.out).on hl) hk))⟩, ?_⟩
  simp only [Act.put, List.setIfInBounds_toArray, List.set_cons_zero, List.set_cons_succ]
  refine late_one 5 (by kernel_rfl) (by kernel_rfl) (fun o ho => ?_)
  simp only [List.getElem?_toArray, List.getElem?_cons_zero, List.getElem?_cons_succ, Option.some.injEq] at ho; subst ho
  refine ⟨by kernel_rfl, fun wn hl K hK => ?_⟩
  have HR2 := Lib.hid (HR2.out.later hl); have HR3 := Lib.hid (HR3.out.later hl); have HB := Lib.hid (below_on HB.out hl); clear hl
  refine wp_enter _ _ (by go_simp; exact ⟨rfl, rfl⟩) ?_
  refine (placed_int (sh4 n k) (knA k) _ 2 _ (kn_le k hk).1 rfl).mono ?_; rintro e wm ⟨rfl, hb⟩; refine ⟨_, rfl, ?_⟩
  refine hK.out _ _ hb ?_
  have HR2 := Lib.hid (HR2.out.later hb); have HR3 := Lib.hid (HR3.out.later hb); have HB := Lib.hid (below_on HB.out hb); clear hb
  clear hK K
  simp only [Act.put, List.setIfInBounds_toArray, List.set_cons_zero, List.set_cons_succ]
  refine late_last 6 (by kernel_rfl) (by kernel_rfl) (by kernel_rfl) (fun o ho => ?_)
  simp only [List.getElem?_toArray, List.getElem?_cons_zero, List.getElem?_cons_succ, Option.some.injEq] at ho; subst ho
  refine ⟨by kernel_rfl, fun wn hl K hK => ?_⟩
  have HR2 := Lib.hid (HR2.out.later hl); have HR3 := Lib.hid (HR3.out.later hl); have HB := Lib.hid (below_on HB.out hl); clear hl
  refine late_arr 67 _ _ rfl b3 rfl 8 .u8 (sh4 n k) (sh5 n k) rfl HR3.out size58 ?_; intro wm U R
  have HR2 := Lib.hid (HR2.out.apart U HD23.out)
  have HR3 := Lib.hid R; have HB := Lib.hid (HB.out.trans (U.below HG3.out)); clear U R
  refine hK.out _ _ ?_
  clear hK K
  simp only [Act.put, List.setIfInBounds_toArray, List.set_cons_zero, List.set_cons_succ]
  go_wp2_with fail
  go_loopw [38] (fun i wr => ∃ j : Nat, j ≤ 3 ∧ i = .int .i64 (j : Int) ∧ Blk wr b3 67 (arrA 8 .u8 (sh6 n k j)) ∧ Blk wr b2 67 (arrA 8 .u8 zeroP) ∧ Below w.heap.size w wr) (fun i _ => 3 - (intOf i).toNat)
  case atStart => exact ⟨0, by omega, rfl, HR3.out, HR2.out, HB.out⟩
  case round =>
    clear HR3 HR2 HB
    obtain ⟨j, hj, rfl, h3, h2, hb⟩ := hrel
    have HR3 := Lib.hid h3
    have HR2 := Lib.hid h2
    have HB := Lib.hid hb
    clear h3 h2 hb
    by_cases hlt : j < 3
    · obtain ⟨p, Hp⟩ : ∃ p, Hid (sh6 n k j = p) := ⟨_, Lib.hid rfl⟩
      obtain ⟨x, Hx⟩ : ∃ x : Int, Hid ((([4, 6, 4].getD j 0 : Nat) : Int) = x) := ⟨_, Lib.hid rfl⟩
      have HN := Lib.hid (show sh6 n k (j + 1) = placeR p 0 x by rw [← Hp.out, ← Hx.out]; rfl)
      rw [Hp.out] at HR3
      have HI := Lib.hid (three_at j hlt)
      go_wp2_with (first
        | (refine step_index rfl 125 5 _ _ rfl 3 #[.int .u8 4, .int .u8 6, .int .u8 4] rfl .i64 j rfl hlt Tryz.underlying125 Tryz.underlying5 rfl size5 (.int .u8 x) (by rw [← Hx.out]; exact HI.out) ?_)
        | (refine arr_load rfl 67 _ rfl b3 rfl 8 .u8 p ?_ _ Tryz.underlying67 rfl size58 ?_; exact HR3.out))
      refine (placed_int p 0 _ x _ (by omega) rfl).mono ?_; rintro e wn ⟨rfl, hb⟩; have HR2 := Lib.hid (HR2.out.later hb); have HR3 := Lib.hid (HR3.out.later hb); have HB := Lib.hid (below_on HB.out hb); clear hb
      go_wp2_with (refine arr_store rfl 67 _ _ rfl b3 rfl 8 .u8 p (placeR p 0 x) rfl ?_ size58 ?_; exact HR3.out; intro w2 U R; have HR2 := Lib.hid (HR2.out.apart U HD23.out); have HR3 := Lib.hid R; have HB := Lib.hid (HB.out.trans (U.below HG3.out)); clear U R)
      go_roundw
      case rel => exact ⟨j + 1, by omega, by go_num, by rw [HN.out]; exact HR3.out, HR2.out, HB.out⟩
      case measure => simp [intOf]; omega
    · obtain rfl : j = 3 := by omega
      rw [HE.out] at HR3
      obtain ⟨p, Hp⟩ : ∃ p, Hid (rowZ n = p) := ⟨_, Lib.hid rfl⟩
      rw [Hp.out] at HR3
      go_wp2_with (first
        | (refine arr_load rfl 67 _ rfl b3 rfl 8 .u8 p ?_ _ Tryz.underlying67 rfl size58 ?_; exact HR3.out)
        | (refine arr_store rfl 67 _ _ rfl b2 rfl 8 .u8 zeroP p rfl ?_ size58 ?_; exact HR2.out; intro w2 U R; have HR2 := Lib.hid R; have HB := Lib.hid (HB.out.trans (U.below HG2.out)); clear U R))
      refine bodyPost_ret (v := .agg (arrA 8 .u8 p)) (results_arr rfl _ _ _ _ rfl HR2.out) rfl ⟨by rw [Hp.out], HB.out⟩
theorem armyP_zero (v : Nat) (p : Nat → Int) (c : Nat) (r : Nat → Int) : armyP v p c r 0 = p 0 := by
  unfold armyP
  cases casB v
  · exact armyN_zero _ _ _ _ _ _
  · show rookP _ _ _ _ 0 = _
    unfold rookP
    rw [upd_other _ _ _ _ (by omega), upd_other _ _ _ _ (by omega)]
    exact armyN_zero _ _ _ _ _ _
/-- Both colors lined up. -/
def bothP (v : Nat) (r : Nat → Int) : Nat → Int := armyP v (armyP v (bareP v) 0 r) 1 r
set_option maxRecDepth 100000 in
set_option maxHeartbeats 2000000 in
theorem both_any (v : Nat) (r : Nat → Int) (w : World) (hv : v ≤ 255) (hr : Kinds15 r) (hT : TabVar w) : Calls Tryz.prog 49 #[.int .u8 (v : Int), .agg (arrA 8 .u8 r)] w (PosL (bothP v r) w) := by
  have HT := Lib.hid hT
  have HV := Lib.hid hr
  clear hT hr
  go_enter Tryz.func49, Tryz.ntmps49
  go_wp2_with (first
    | (refine blk_box rfl 67 _ rfl (arrA 8 .u8 r) rfl ?_; intro b3 w1 N R; have HR3 := Lib.hid R; have HB := Lib.hid N.below; clear N R)
    | (refine step_alloc rfl rfl ?_; intro b4 w1 N R; have HG4 := Lib.hid (show w.heap.size ≤ b4 by have := N.at_; have := HB.out.size; omega); have HR3 := Lib.hid (HR3.out.later N.below); have HR4 := Lib.hid R; have HB := Lib.hid (below_on HB.out N.below); clear N R))
  refine late_begin 6 (by kernel_rfl) ?_
  refine late_take 0 (by kernel_rfl) (by kernel_rfl) (by kernel_rfl) (by kernel_rfl) (by kernel_rfl) (fun _ _ d _ _ h => by cases d <;> exact h) (fun o ho => ?_)
  simp only [List.getElem?_toArray, List.getElem?_cons_zero, List.getElem?_cons_succ, Option.some.injEq] at ho; subst ho
  apply Exists.intro
  refine ⟨Or.inl ⟨by kernel_rfl, fun w' hl => Or.inl ?_⟩, ?_⟩
  · (go_simp; try with_reducible rfl)
  simp only [Act.put, List.setIfInBounds_toArray, List.set_cons_zero, List.set_cons_succ]
  refine late_take 2 (by kernel_rfl) (by kernel_rfl) (by kernel_rfl) (by kernel_rfl) (by kernel_rfl) (fun _ _ d _ _ h => by cases d <;> exact h) (fun o ho => ?_)
  simp only [List.getElem?_toArray, List.getElem?_cons_zero, List.getElem?_cons_succ, Option.some.injEq] at ho; subst ho
  refine ⟨_, Or.inl ⟨by kernel_rfl, fun w' hl => Or.inl (run_blk 67 _ rfl _ rfl (arrA 8 .u8 r) (HR3.out.later hl) _ Tryz.underlying67 rfl (by rw [arrA_size]; exact size58))⟩, ?_⟩
  simp only [Act.put, List.setIfInBounds_toArray, List.set_cons_zero, List.set_cons_succ]
  refine late_take 4 (by kernel_rfl) (by kernel_rfl) (by kernel_rfl) (by kernel_rfl) (by kernel_rfl) (fun _ _ d _ _ h => by cases d <;> exact h) (fun o ho => ?_)
  simp only [List.getElem?_toArray, List.getElem?_cons_zero, List.getElem?_cons_succ, Option.some.injEq] at ho; subst ho
  refine ⟨_, Or.inl ⟨by kernel_rfl, fun w' hl => Or.inl (run_blk 67 _ rfl _ rfl (arrA 8 .u8 r) (HR3.out.later hl) _ Tryz.underlying67 rfl (by rw [arrA_size]; exact size58))⟩, ?_⟩
  simp only [Act.put, List.setIfInBounds_toArray, List.set_cons_zero, List.set_cons_succ]
  refine late_one 1 (by kernel_rfl) (by kernel_rfl) (fun o ho => ?_)
  simp only [List.getElem?_toArray, List.getElem?_cons_zero, List.getElem?_cons_succ, Option.some.injEq] at ho; subst ho
  refine ⟨by kernel_rfl, fun wn hl K hK => ?_⟩
  have HR3 := Lib.hid (HR3.out.later hl); have HR4 := Lib.hid (HR4.out.later hl); have HB := Lib.hid (below_on HB.out hl); clear hl
  refine wp_enter _ _ (by go_simp; exact ⟨rfl, rfl⟩) ?_
  refine (bare_any (v : Int) _).mono ?_; rintro e wm ⟨rfl, hb⟩; refine ⟨_, rfl, ?_⟩
  refine hK.out _ _ hb ?_
  have HR3 := Lib.hid (HR3.out.later hb); have HR4 := Lib.hid (HR4.out.later hb); have HB := Lib.hid (below_on HB.out hb); clear hb
  clear hK K
  simp only [Act.put, List.setIfInBounds_toArray, List.set_cons_zero, List.set_cons_succ]
  refine late_one 3 (by kernel_rfl) (by kernel_rfl) (fun o ho => ?_)
  simp only [List.getElem?_toArray, List.getElem?_cons_zero, List.getElem?_cons_succ, Option.some.injEq] at ho; subst ho
  refine ⟨by kernel_rfl, fun wn hl K hK => ?_⟩
  have HR3 := Lib.hid (HR3.out.later hl); have HR4 := Lib.hid (HR4.out.later hl); have HB := Lib.hid (below_on HB.out hl); clear hl
  refine wp_enter _ _ (by go_simp; exact ⟨rfl, rfl⟩) ?_
  refine (army0_any v (bareP v) r _ hv rfl HV.out (HT.out.on HB.out)).mono ?_; rintro e wm ⟨rfl, hb⟩; refine ⟨_, rfl, ?_⟩
  refine hK.out _ _ hb ?_
  have HR3 := Lib.hid (HR3.out.later hb); have HR4 := Lib.hid (HR4.out.later hb); have HB := Lib.hid (below_on HB.out hb); clear hb
  clear hK K
  simp only [Act.put, List.setIfInBounds_toArray, List.set_cons_zero, List.set_cons_succ]
  refine late_one 5 (by kernel_rfl) (by kernel_rfl) (fun o ho => ?_)
  simp only [List.getElem?_toArray, List.getElem?_cons_zero, List.getElem?_cons_succ, Option.some.injEq] at ho; subst ho
  refine ⟨by kernel_rfl, fun wn hl K hK => ?_⟩
  have HR3 := Lib.hid (HR3.out.later hl); have HR4 := Lib.hid (HR4.out.later hl); have HB := Lib.hid (below_on HB.out hl); clear hl
  refine wp_enter _ _ (by go_simp; exact ⟨rfl, rfl⟩) ?_
  refine (army1_any v (armyP v (bareP v) 0 r) r _ hv (armyP_zero _ _ _ _) HV.out (HT.out.on HB.out)).mono ?_; rintro e wm ⟨rfl, hb⟩; refine ⟨_, rfl, ?_⟩
  refine hK.out _ _ hb ?_
  have HR3 := Lib.hid (HR3.out.later hb); have HR4 := Lib.hid (HR4.out.later hb); have HB := Lib.hid (below_on HB.out hb); clear hb
  clear hK K
  simp only [Act.put, List.setIfInBounds_toArray, List.set_cons_zero, List.set_cons_succ]
  refine late_last 6 (by kernel_rfl) (by kernel_rfl) (by kernel_rfl) (fun o ho => ?_)
  simp only [List.getElem?_toArray, List.getElem?_cons_zero, List.getElem?_cons_succ, Option.some.injEq] at ho; subst ho
  refine ⟨by kernel_rfl, fun wn hl K hK => ?_⟩
  have HR3 := Lib.hid (HR3.out.later hl); have HR4 := Lib.hid (HR4.out.later hl); have HB := Lib.hid (below_on HB.out hl); clear hl
  refine late_whole _ _ rfl b4 rfl zeroP (bothP v r) rfl HR4.out ?_; intro wm U R
  have HR4 := Lib.hid R; have HB := Lib.hid (HB.out.trans (U.below HG4.out)); clear U R
  refine hK.out _ _ ?_
  clear hK K
  simp only [Act.put, List.setIfInBounds_toArray, List.set_cons_zero, List.set_cons_succ]
  go_wp2_with fail
  obtain ⟨q, Hq⟩ : ∃ q, Hid (bothP v r = q) := ⟨_, Lib.hid rfl⟩
  rw [Hq.out] at HR4
  refine bodyPost_ret (v := .agg (posA q)) (results_row rfl _ _ _ _ rfl HR4.out) rfl ⟨by rw [Hq.out], HB.out⟩
/-- A position and a yes or no. -/
def PosB (q : Nat → Int) (b : Bool) (w : World) (e : Ending) (w' : World) : Prop := e = .returned (.tuple #[.agg (posA q), .bool b]) ∧ Below w.heap.size w w'
theorem results_two {fn : Func} {i j : Tmp} (h : fn.results = #[.cell i 31, .tmp j]) (tmps : Array Value) (w : World) (b : Nat) (p : Nat → Int) (x : Value) (hp : tmps.getD i undef = .pointer (some ⟨b, 0, none⟩)) (hx : tmps.getD j undef = x) (hr : Row w b p) :
    (results fn tmps).run Tryz.prog w = .ok (.tuple #[.agg (posA p), x]) w := by
  have hl := run_loadVar_row w b 31 31 (posA p) (0, 0) _ hr Tryz.underlying31 rfl (by rw [posA_size]; exact size31)
  have hp' : tmps[i]?.getD undef = .pointer (some ⟨b, 0, none⟩) := by simpa using hp
  have hx' : tmps[j]?.getD undef = x := by simpa using hx
  simp [results, h, hp', hx', asAddr, hl]
theorem kinds_row (n : Nat) (hn : n < 960) : Kinds15 (rowZ n) := fun i hi => by
  refine ⟨(rowL n).getD i 0, ?_, (rowZ_rep n).at_ i hi⟩
  have key : ∀ n : Fin 960, ((rowL n.val).all fun x => Nat.ble x 7) = true := by decide +kernel
  have := List.all_eq_true.1 (key ⟨n, hn⟩)
  have hl : i < (rowL n).length := by rw [(rowZ_rep n).len]; exact hi
  have h2 := this ((rowL n)[i]) (List.getElem_mem hl)
  rw [List.getD_eq_getElem?_getD, List.getElem?_eq_getElem hl]
  simpa using h2
/-- The first position of a number of chess960. -/
def posN (n : Nat) : Nat → Int := bothP 1 (rowZ n)
set_option maxRecDepth 100000 in
set_option maxHeartbeats 2000000 in
theorem start960_any (n : Nat) (w : World) (hn : n < 960) (hT : TabVar w) (hK : TabKn w) : Calls Tryz.prog 46 #[.int .i64 (n : Int)] w (PosB (posN n) true w) := by
  have HT := Lib.hid hT
  have HK := Lib.hid hK
  clear hT hK
  have g0 : decide ((n : Int) < 0) = false := decide_eq_false (by omega)
  have g1 : decide ((960 : Int) ≤ (n : Int)) = false := decide_eq_false (by omega)
  have HP := Lib.hid (kinds_row n hn)
  go_enter Tryz.func46, Tryz.ntmps46
  go_wp2_with (refine step_alloc rfl rfl ?_; intro b2 w1 N R; have HG2 := Lib.hid (Nat.le_of_eq N.at_.symm); have HR2 := Lib.hid R; have HB := Lib.hid N.below; clear N R)
  refine (shuf_any n _ hn (HK.out.on HB.out)).mono ?_; rintro e wn ⟨rfl, hb⟩; have HR2 := Lib.hid (HR2.out.later hb); have HB := Lib.hid (below_on HB.out hb); clear hb
  obtain ⟨r, Hr⟩ : ∃ r, Hid (rowZ n = r) := ⟨_, Lib.hid rfl⟩
  have HQ := Lib.hid (show posN n = bothP 1 r by unfold posN; rw [Hr.out])
  rw [Hr.out] at HP
  rw [Hr.out]
  go_wp2_with fail
  refine (both_any 1 r _ (by omega) HP.out (HT.out.on HB.out)).mono ?_; rintro e wn ⟨rfl, hb⟩; have HR2 := Lib.hid (HR2.out.later hb); have HB := Lib.hid (below_on HB.out hb); clear hb
  obtain ⟨q, Hq⟩ : ∃ q, Hid (bothP 1 r = q) := ⟨_, Lib.hid rfl⟩
  rw [Hq.out]
  go_wp2_with (refine step_store rfl _ _ rfl b2 rfl zeroP q rfl ?_ ?_; exact HR2.out; intro w2 U R; have HR2 := Lib.hid R; have HB := Lib.hid (HB.out.trans (U.below HG2.out)); clear U R)
  refine bodyPost_ret (v := .tuple #[.agg (posA q), .bool true]) (results_two rfl _ _ _ _ _ rfl rfl HR2.out) rfl ⟨by rw [HQ.out, Hq.out], HB.out⟩
set_option maxRecDepth 100000 in
set_option maxHeartbeats 2000000 in
theorem start960_no (n : Int) (w : World) (h : n < 0 ∨ 960 ≤ n) : Calls Tryz.prog 46 #[.int .i64 n] w (PosB zeroP false w) := by
  by_cases h0 : n < 0
  · have g0 : decide (n < 0) = true := decide_eq_true h0
    go_enter Tryz.func46, Tryz.ntmps46
    go_wp2_with (first
      | (refine step_alloc rfl rfl ?_; intro b2 w1 N R; have HG2 := Lib.hid (Nat.le_of_eq N.at_.symm); have HR2 := Lib.hid R; have HB := Lib.hid N.below; clear N R)
      | (refine step_build rfl 31 _ rfl (posA zeroP) (by kernel_rfl) ?_)
      | (refine step_store rfl _ _ rfl b2 rfl zeroP zeroP rfl ?_ ?_; exact HR2.out; intro w2 U R; have HR2 := Lib.hid R; have HB := Lib.hid (HB.out.trans (U.below HG2.out)); clear U R))
    refine bodyPost_ret (v := .tuple #[.agg (posA zeroP), .bool false]) (results_two rfl _ _ _ _ _ rfl rfl HR2.out) rfl ⟨rfl, HB.out⟩
  · have g0 : decide (n < 0) = false := decide_eq_false h0
    have g1 : decide (960 ≤ n) = true := decide_eq_true (by omega)
    go_enter Tryz.func46, Tryz.ntmps46
    go_wp2_with (first
      | (refine step_alloc rfl rfl ?_; intro b2 w1 N R; have HG2 := Lib.hid (Nat.le_of_eq N.at_.symm); have HR2 := Lib.hid R; have HB := Lib.hid N.below; clear N R)
      | (refine step_build rfl 31 _ rfl (posA zeroP) (by kernel_rfl) ?_)
      | (refine step_store rfl _ _ rfl b2 rfl zeroP zeroP rfl ?_ ?_; exact HR2.out; intro w2 U R; have HR2 := Lib.hid R; have HB := Lib.hid (HB.out.trans (U.below HG2.out)); clear U R))
    refine bodyPost_ret (v := .tuple #[.agg (posA zeroP), .bool false]) (results_two rfl _ _ _ _ _ rfl rfl HR2.out) rfl ⟨rfl, HB.out⟩
end Go.Proofs.YtjbfjohgfbipgaaGreatDoor
