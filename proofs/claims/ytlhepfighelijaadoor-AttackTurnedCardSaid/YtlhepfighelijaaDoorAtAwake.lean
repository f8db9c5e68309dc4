/-
  Layer 8's none, awake, lawful; contracts at known answers.
-/
import Derived.Test.YtlhepfighelijaaDoorAtRefC
import Derived.Test.YtlhepfighelijaaDoorPosEq
namespace Go.Proofs.YtlhepfighelijaaDoor
open Go.RowKit
set_option linter.unusedVariables false
set_option linter.unusedSimpArgs false
theorem AtR.of {p : Nat → Int} (h : WfP p) : AtR p := by
  have hu : ∀ j, j < 88 → kAt j = .u8 → 0 ≤ p j ∧ p j ≤ 255 := fun j hj hk => by
    have := h j hj; rw [hk] at this
    exact u8_rng this
  exact ⟨fun i hi => hu _ (by omega) (kAt_board (by omega) hi), hu 0 (by omega) rfl, hu 78 (by omega) rfl⟩
theorem wf_u8 {x : Int} (h : 0 ≤ x ∧ x ≤ 255) : (Lit.int .u8 x).wf = true := by
  have a : IntKind.u8.min = 0 := by decide
  have b : IntKind.u8.max = 255 := by decide
  simp [Lit.wf, a, b, h.1, h.2]
theorem AtR.put {p : Nat → Int} (h : AtR p) (i : Nat) (x : Int) (hx : 0 ≤ x ∧ x ≤ 255) : AtR (upd p i x) := by
  have key : ∀ j, (0 ≤ p j ∧ p j ≤ 255) → 0 ≤ upd p i x j ∧ upd p i x j ≤ 255 := fun j hj => by unfold upd; split; { exact hx }; { exact hj }
  exact ⟨fun j hj => key _ (h.bd j hj), key _ h.var, key _ h.turn⟩
theorem new_row {b c : Nat} {w w' : World} {p : Nat → Int} (h : New b w w') (hr : Row w c p) : Row w' c p := hr.later h.below
theorem new_ne {b c : Nat} {w w' : World} {p : Nat → Int} (h : New b w w') (hr : Row w c p) : c ≠ b := by have := hr.lt; have := h.at_; omega
def noneP : Nat → Int := upd (upd zeroP 83 (-1)) 87 1
theorem none_atR : AtR noneP := by
  have z : ∀ j, j ≠ 83 → j ≠ 87 → noneP j = 0 := fun j h1 h2 => by unfold noneP; rw [upd_other _ _ _ _ h2, upd_other _ _ _ _ h1]; rfl
  refine ⟨fun i hi => ?_, ?_, ?_⟩
  · rw [z _ (by omega) (by omega)]; decide
  · rw [z _ (by decide) (by decide)]; decide
  · rw [z _ (by decide) (by decide)]; decide
set_option maxRecDepth 100000 in
theorem none_any (w : World) : Calls Tryd.prog 21 #[] w (PosL noneP w) := by
  go_enter Tryd.func21, Tryd.ntmps21
  go_wp2_with (first
    | (refine step_alloc rfl rfl ?_; intro b1 w1 N R; have HG := Lib.hid (Nat.le_of_eq N.at_.symm); have HR := Lib.hid R; have HB := Lib.hid N.below; clear N R)
    | (refine step_build rfl 31 _ rfl (posA noneP) (by kernel_rfl) ?_)
    | (refine step_store rfl _ _ rfl b1 rfl _ noneP rfl HR.out ?_; intro w2 U R; have HR := Lib.hid R; have HB := Lib.hid (HB.out.trans (U.below HG.out)); clear U R))
  refine bodyPost_ret (v := .agg (posA noneP)) (results_row rfl _ _ _ _ rfl HR.out) rfl ⟨rfl, HB.out⟩
theorem check_k {p : Nat → Int} {c : Int} {b : Bool} (h : chkB p c = b) (w : World) (hp : AtR p) (hc : 0 ≤ c ∧ c ≤ 255) (hD : TabDb w) (hL : TabLead w) (hT : TabVar w) : Calls Tryd.prog 16 #[.agg (posA p), .int .u8 c] w (BoL b w) := h ▸ check_any p c w hp hc hD hL hT
theorem checkers_k {p : Nat → Int} {n : Nat} (h : chksN p = n) (w : World) (hp : AtR p) (hD : TabDb w) (hL : TabLead w) (hT : TabVar w) : Calls Tryd.prog 18 #[.agg (posA p)] w (U64L n w) := h ▸ checkers_any p w hp hD hL hT
theorem by_k {p : Nat → Int} {s c : Int} {n : Nat} (h : byN p s c = n) (w : World) (hp : BdR p) (hc : 0 ≤ c) (hD : TabDb w) (hL : TabLead w) : Calls Tryd.prog 11 #[.agg (posA p), .int .i64 s, .int .u8 c] w (U64L n w) := h ▸ by_any p s c w hp hc hD hL
theorem on_k {p : Nat → Int} {s c : Int} {b : Bool} (h : anyB p s c = b) (w : World) (hp : BdR p) (hc : 0 ≤ c) (hD : TabDb w) (hL : TabLead w) : Calls Tryd.prog 12 #[.agg (posA p), .int .i64 s, .int .u8 c] w (BoL b w) := h ▸ on_any p s c w hp hc hD hL
theorem from_k {p : Nat → Int} {s : Int} {n : Nat} (h : fromN p s = n) (w : World) (hp : BdR p) (hD : TabDb w) (hL : TabLead w) : Calls Tryd.prog 14 #[.agg (posA p), .int .i64 s] w (U64L n w) := h ▸ from_any p s w hp hD hL
def awP : Nat → Int := upd (upd (upd (upd noneP 5 6) 1 4) 61 14) 37 12
def awQ : Nat → Int := upd (upd (upd (upd noneP 13 1) 15 1) 7 2) 2 2
theorem awP_at : AtR awP := (((none_atR.put 5 6 (by decide)).put 1 4 (by decide)).put 61 14 (by decide)).put 37 12 (by decide)
theorem awQ_at : AtR awQ := (((none_atR.put 13 1 (by decide)).put 15 1 (by decide)).put 7 2 (by decide)).put 2 2 (by decide)
theorem aw_1 : chkB awP 0 = true := by decide +kernel
theorem aw_2 : chkB awP 1 = false := by decide +kernel
theorem aw_3 : chksN awP = 68719476736 := by decide +kernel
theorem aw_4 : byN awQ 21 0 = 20544 := by decide +kernel
theorem aw_5 : anyB awQ 28 0 = false := by decide +kernel
theorem aw_6 : fromN awQ 1 = 329728 := by decide +kernel
set_option maxRecDepth 100000 in
set_option maxHeartbeats 4000000 in
theorem at_awake (w : World) (hD : TabDb w) (hL : TabLead w) (hT : TabVar w) : Calls Tryd.prog 13 #[] w (BoL true w) := by
  have HD := Lib.hid hD
  have HL := Lib.hid hL
  have HT := Lib.hid hT
  clear hD hL hT
  have K1 := Lib.hid aw_1
  have K2 := Lib.hid aw_2
  have K3 := Lib.hid aw_3
  have K4 := Lib.hid aw_4
  have K5 := Lib.hid aw_5
  have K6 := Lib.hid aw_6
  have AP := Lib.hid awP_at
  have AQ := Lib.hid awQ_at
  go_enter Tryd.func13, Tryd.ntmps13
  go_wp2_with fail
  refine (none_any _).mono ?_; rintro e wn ⟨rfl, hb⟩; have HB := Lib.hid hb; clear hb
  go_wp2_with (first
    | (refine step_alloc (op := ⟨some 1, _, _, _, _, _⟩) rfl rfl ?_; intro b1 wn N R; have HR1 := Lib.hid R; have HG1 := Lib.hid (show w.heap.size ≤ b1 by have := HB.out.size; have := N.at_; omega); have HB := Lib.hid (below_on HB.out N.below); clear N R)
    | (refine step_store rfl _ _ rfl b1 rfl _ noneP rfl HR1.out ?_; intro wn U R; have HR1 := Lib.hid R; have HB := Lib.hid (HB.out.trans (U.below HG1.out)); clear U R)
    | (refine step_cell (by rfl) 5 _ _ rfl b1 5 rfl .u8 6 rfl _ HR1.out (by omega) rfl size5 ?_; intro wn U R; have HR1 := Lib.hid R; have HB := Lib.hid (HB.out.trans (U.below HG1.out)); clear U R)
    | (refine step_cell (by rfl) 5 _ _ rfl b1 1 rfl .u8 4 rfl _ HR1.out (by omega) rfl size5 ?_; intro wn U R; have HR1 := Lib.hid R; have HB := Lib.hid (HB.out.trans (U.below HG1.out)); clear U R)
    | (refine step_cell (by rfl) 5 _ _ rfl b1 61 rfl .u8 14 rfl _ HR1.out (by omega) rfl size5 ?_; intro wn U R; have HR1 := Lib.hid R; have HB := Lib.hid (HB.out.trans (U.below HG1.out)); clear U R)
    | (refine step_cell (by rfl) 5 _ _ rfl b1 37 rfl .u8 12 rfl _ HR1.out (by omega) rfl size5 ?_; intro wn U R; have HR1 := Lib.hid R; have HB := Lib.hid (HB.out.trans (U.below HG1.out)); clear U R))
  refine (none_any _).mono ?_; rintro e wn ⟨rfl, hb⟩; have HR1 := Lib.hid (HR1.out.later hb); have HB := Lib.hid (below_on HB.out hb); clear hb
  have HR1 := Lib.hid (show Row _ b1 awP from HR1.out)
  go_wp2_with (first
    | (refine step_alloc (op := ⟨some 2, _, _, _, _, _⟩) rfl rfl ?_; intro b2 wn N R; have HD12 := Lib.hid (new_ne N HR1.out); have HR1 := Lib.hid (new_row N HR1.out); have HR2 := Lib.hid R; have HG2 := Lib.hid (show w.heap.size ≤ b2 by have := HB.out.size; have := N.at_; omega); have HB := Lib.hid (below_on HB.out N.below); clear N R)
    | (refine step_store rfl _ _ rfl b2 rfl _ noneP rfl HR2.out ?_; intro wn U R; have HR1 := Lib.hid (HR1.out.apart U HD12.out); have HR2 := Lib.hid R; have HB := Lib.hid (HB.out.trans (U.below HG2.out)); clear U R)
    | (refine step_cell (by rfl) 5 _ _ rfl b2 13 rfl .u8 1 rfl _ HR2.out (by omega) rfl size5 ?_; intro wn U R; have HR2 := Lib.hid R; have HR1 := Lib.hid (HR1.out.apart U HD12.out); have HB := Lib.hid (HB.out.trans (U.below HG2.out)); clear U R)
    | (refine step_cell (by rfl) 5 _ _ rfl b2 15 rfl .u8 1 rfl _ HR2.out (by omega) rfl size5 ?_; intro wn U R; have HR2 := Lib.hid R; have HR1 := Lib.hid (HR1.out.apart U HD12.out); have HB := Lib.hid (HB.out.trans (U.below HG2.out)); clear U R)
    | (refine step_cell (by rfl) 5 _ _ rfl b2 7 rfl .u8 2 rfl _ HR2.out (by omega) rfl size5 ?_; intro wn U R; have HR2 := Lib.hid R; have HR1 := Lib.hid (HR1.out.apart U HD12.out); have HB := Lib.hid (HB.out.trans (U.below HG2.out)); clear U R)
    | (refine step_cell (by rfl) 5 _ _ rfl b2 2 rfl .u8 2 rfl _ HR2.out (by omega) rfl size5 ?_; intro wn U R; have HR2 := Lib.hid R; have HR1 := Lib.hid (HR1.out.apart U HD12.out); have HB := Lib.hid (HB.out.trans (U.below HG2.out)); clear U R)
    | (refine step_load (by rfl) _ rfl b1 rfl awP HR1.out ?_))
  refine (check_k K1.out _ AP.out (by decide) (HD.out.next HB.out) (HL.out.next HB.out) (HT.out.on HB.out)).mono ?_; rintro e wn ⟨rfl, hb⟩; have HR1 := Lib.hid (HR1.out.later hb); have HR2 := Lib.hid (HR2.out.later hb); have HB := Lib.hid (below_on HB.out hb); clear hb
  have HR2 := Lib.hid (show Row _ b2 awQ from HR2.out)
  go_wp2_with (first | (refine step_load (by rfl) _ rfl b1 rfl awP HR1.out ?_) | (refine step_load (by rfl) _ rfl b2 rfl awQ HR2.out ?_))
  refine (check_k K2.out _ AP.out (by decide) (HD.out.next HB.out) (HL.out.next HB.out) (HT.out.on HB.out)).mono ?_; rintro e wn ⟨rfl, hb⟩; have HR1 := Lib.hid (HR1.out.later hb); have HR2 := Lib.hid (HR2.out.later hb); have HB := Lib.hid (below_on HB.out hb); clear hb
  go_wp2_with (first | (refine step_load (by rfl) _ rfl b1 rfl awP HR1.out ?_) | (refine step_load (by rfl) _ rfl b2 rfl awQ HR2.out ?_))
  refine (checkers_k K3.out _ AP.out (HD.out.next HB.out) (HL.out.next HB.out) (HT.out.on HB.out)).mono ?_; rintro e wn ⟨rfl, hb⟩; have HR1 := Lib.hid (HR1.out.later hb); have HR2 := Lib.hid (HR2.out.later hb); have HB := Lib.hid (below_on HB.out hb); clear hb
  go_wp2_with (first | (refine step_load (by rfl) _ rfl b1 rfl awP HR1.out ?_) | (refine step_load (by rfl) _ rfl b2 rfl awQ HR2.out ?_))
  refine (by_k K4.out _ AQ.out.bd (by decide) (HD.out.next HB.out) (HL.out.next HB.out)).mono ?_; rintro e wn ⟨rfl, hb⟩; have HR1 := Lib.hid (HR1.out.later hb); have HR2 := Lib.hid (HR2.out.later hb); have HB := Lib.hid (below_on HB.out hb); clear hb
  go_wp2_with (first | (refine step_load (by rfl) _ rfl b1 rfl awP HR1.out ?_) | (refine step_load (by rfl) _ rfl b2 rfl awQ HR2.out ?_))
  refine (on_k K5.out _ AQ.out.bd (by decide) (HD.out.next HB.out) (HL.out.next HB.out)).mono ?_; rintro e wn ⟨rfl, hb⟩; have HR1 := Lib.hid (HR1.out.later hb); have HR2 := Lib.hid (HR2.out.later hb); have HB := Lib.hid (below_on HB.out hb); clear hb
  go_wp2_with (first | (refine step_load (by rfl) _ rfl b1 rfl awP HR1.out ?_) | (refine step_load (by rfl) _ rfl b2 rfl awQ HR2.out ?_))
  refine (from_k K6.out _ AQ.out.bd (HD.out.next HB.out) (HL.out.next HB.out)).mono ?_; rintro e wn ⟨rfl, hb⟩; have HR1 := Lib.hid (HR1.out.later hb); have HR2 := Lib.hid (HR2.out.later hb); have HB := Lib.hid (below_on HB.out hb); clear hb
  go_wp2_with fail
  go_ret
  exact ⟨rfl, HB.out⟩
/-- Each number of the board is nothing, or a piece. -/
def lawB (p : Nat → Int) (k : Nat) : Bool := (List.range k).all fun i => p (1 + i) == 0 || pcB (p (1 + i))
theorem lawB_succ (p : Nat → Int) (k : Nat) : lawB p (k + 1) = (lawB p k && (p (1 + k) == 0 || pcB (p (1 + k)))) := by unfold lawB; rw [List.range_succ, List.all_append]; simp
theorem lawB_at {p : Nat → Int} {k : Nat} (h : lawB p k = true) (i : Nat) (hi : i < k) : p (1 + i) = 0 ∨ pcB (p (1 + i)) = true := by
  unfold lawB at h
  have := (List.all_eq_true.1 h) i (List.mem_range.2 hi)
  simpa using this
theorem lawB_no {p : Nat → Int} {k : Nat} (h : lawB p k = false) : ∀ n, k ≤ n → lawB p n = false := fun n hn => by
  induction n with
  | zero => obtain rfl : k = 0 := by omega
            exact h
  | succ n ih =>
    by_cases e : k = n + 1
    · subst e; exact h
    · rw [lawB_succ, ih (by omega)]; rfl
set_option maxRecDepth 100000 in
set_option maxHeartbeats 1000000 in
theorem lawful_any (p : Nat → Int) (w : World) (hp : BdR p) : Calls Tryd.prog 20 #[.agg (posA p)] w (BoL (lawB p 64) w) := by
  have HP := Lib.hid hp
  clear hp
  go_enter Tryd.func20, Tryd.ntmps20
  go_wp2_with (refine step_box rfl _ rfl p rfl ?_; intro b1 w1 N R; have HB := Lib.hid N.below; have HR1 := Lib.hid R; clear N R)
  go_loop [3] (fun i => ∃ k : Nat, k ≤ 64 ∧ i = .int .i64 (k : Int) ∧ Hid (lawB p k = true)) (fun i => 64 - (intOf i).toNat)
  case atStart => exact ⟨0, by omega, rfl, Lib.hid rfl⟩
  case round =>
    obtain ⟨k, hk, rfl, Hi⟩ := hrel
    by_cases hlt : k < 64
    · have gk : decide ((k : Int) < 64) = true := decide_eq_true (by omega)
      have l0 : (k : Int) ≤ 63 := by omega
      have hx := HP.out k hlt
      obtain ⟨x, HX⟩ : ∃ x, Hid (p (1 + k) = x) := ⟨_, Lib.hid rfl⟩
      have hcell := HR1.out.cell (1 + k) (by omega)
      rw [HX.out, kAt_board (by omega) hlt] at hcell
      rw [HX.out] at hx
      obtain ⟨x0, x1⟩ := hx
      have HS := Lib.hid (show lawB p (k + 1) = (x == 0 || pcB x) by rw [lawB_succ, Hi.out, HX.out]; rfl)
      have Hlt := Lib.hid hlt
      clear hlt
      cases g0 : (x != 0)
      · have HE := Lib.hid (show lawB p (k + 1) = true by rw [HS.out]; simp only [bne, Bool.not_eq_false'] at g0; rw [g0]; rfl)
        go_wp2_with fail
        go_round
        case rel => exact ⟨k + 1, by have := Hlt.out; omega, by go_num, HE⟩
        case measure => simp [intOf]; have := Hlt.out; omega
      · have hx0 : x ≠ 0 := by rw [bne_iff_ne] at g0; exact g0
        have HE0 : (x == 0) = false := by rw [beq_eq_false_iff_ne]; exact hx0
        have HZ := Lib.hid (show lawB p (k + 1) = pcB x by rw [HS.out, HE0]; rfl)
        have HF := Lib.hid (fun h : pcB x = false => lawB_no (HZ.out.trans h) 64 (by have := Hlt.out; omega))
        clear HE0
        by_cases e1 : 15 < x
        · have HQ := Lib.hid (HF.out (pcB_false.2 (by omega)))
          have g1 : decide (15 < x) = true := decide_eq_true e1
          clear e1 hx0
          go_wp2_with fail
          go_ret
          exact ⟨by rw [HQ.out]; rfl, HB.out⟩
        · have g1 : decide (15 < x) = false := decide_eq_false e1
          by_cases e2 : x % 8 < 1
          · have HQ := Lib.hid (HF.out (pcB_false.2 (by omega)))
            have g2 : decide (x % 8 < 1) = true := decide_eq_true e2
            clear e1 hx0 e2
            go_wp2_with fail
            go_ret
            exact ⟨by rw [HQ.out]; rfl, HB.out⟩
          · have g2 : decide (x % 8 < 1) = false := decide_eq_false e2
            by_cases e3 : 6 < x % 8
            · have HQ := Lib.hid (HF.out (pcB_false.2 (by omega)))
              have g3 : decide (6 < x % 8) = true := decide_eq_true e3
              clear e1 hx0 e2 e3
              go_wp2_with fail
              go_ret
              exact ⟨by rw [HQ.out]; rfl, HB.out⟩
            · have HE := Lib.hid (show lawB p (k + 1) = true by rw [HZ.out]; exact pcB_true.2 (by omega))
              have g3 : decide (6 < x % 8) = false := decide_eq_false e3
              clear e1 hx0 e2 e3
              go_wp2_with fail
              go_round
              case rel => exact ⟨k + 1, by have := Hlt.out; omega, by go_num, HE⟩
              case measure => simp [intOf]; have := Hlt.out; omega
    · obtain rfl : k = 64 := by omega
      go_wp2_with fail
      go_ret
      exact ⟨by rw [Hi.out]; rfl, HB.out⟩
end Go.Proofs.YtlhepfighelijaaDoor
