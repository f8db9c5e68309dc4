/-
  The walk of the document's Start960.
-/
import Derived.Test.YtkeoadcckbcccaaDoorRuRefB
namespace Go.Proofs.YtkeoadcckbcccaaDoor
open Go.RowKit
set_option linter.unusedVariables false
set_option linter.unusedSimpArgs false
/-- The document's first position of a number of chess960. -/
def rposN (n : Nat) : Nat → Int := rookP (rookP (ofP 1 (rowsL (stR (loN (rfD n) 8)) (stR (rfD n)))) 79 (((refE n).getD 2 0 : Nat) : Int) (((refE n).getD 0 0 : Nat) : Int)) 81 (((refE n).getD 2 0 : Nat) : Int) (((refE n).getD 0 0 : Nat) : Int)
theorem rook4 (x y : Int) : Value.agg #[.int .i8 x, .int .i8 y, .int .i8 x, .int .i8 y] = .agg (partL (rookP (rookP zeroP 79 x y) 81 x y) 79 4).toArray := by kernel_rfl
theorem over_four (p : Nat → Int) (x y : Int) : over p 79 4 (rookP (rookP zeroP 79 x y) 81 x y) = rookP (rookP p 79 x y) 81 x y := by
  funext j
  unfold over rookP
  by_cases e3 : j = 82
  · subst e3; rfl
  · by_cases e2 : j = 81
    · subst e2; rfl
    · by_cases e1 : j = 80
      · subst e1; rfl
      · by_cases e0 : j = 79
        · subst e0; rfl
        · rw [if_neg (by omega), upd_other _ _ _ _ (by omega), upd_other _ _ _ _ (by omega), upd_other _ _ _ _ (by omega), upd_other _ _ _ _ (by omega)]
theorem late_part {o : Oper} {a : Act} {w : World} {K : Act → World → Prop} {Q : Exit → Act → World → Prop} (x y : Operand) (ho : o.op = .store 36 x y) (b : Nat) (hx : a.eval x = .pointer (some ⟨b, 79, none⟩)) (p q : Nat → Int) (hy : a.eval y = .agg (partL q 79 4).toArray) (hr : Row w b p)
    (h : ∀ w', Upd b w w' → Row w' b (over p 79 4 q) → K (a.put o.dst undef) w') : Wp Tryd.prog o a w K Q :=
  ⟨wp_store_mid 36 x y ho b 79 (partL q 79 4).toArray hx hy (by rw [List.size_toArray, partL_len]; exact hr.there 79 4 (by omega)) (by rw [List.size_toArray, partL_len]; exact size36) (partL_one q 79 4) (h _ (Upd.setCells _ _ _ _) (Row.sets 4 79 w p q hr (by omega)))⟩
set_option maxRecDepth 100000 in
set_option maxHeartbeats 4000000 in
theorem rstart960_any (n : Nat) (w : World) (hn : n < 960) : Calls Tryd.prog 24 #[.int .i64 (n : Int)] w (PosL (rposN n) w) := by
  obtain ⟨ln2, ln3, ln4⟩ := ref_lens ⟨n, hn⟩
  have hE2 : (emR (rfA n) 8) = emL (refA n) := (rfA_rep n).em
  have hE3 : (emR (rfB n) 8) = emL (refB n) := (rfB_rep n).em
  have hE4 : (emR (rfC n) 8) = refE n := (rfC_rep n).em
  obtain ⟨L2, HL2⟩ : ∃ L, Hid (emL (refA n) = L) := ⟨_, Lib.hid rfl⟩
  obtain ⟨L3, HL3⟩ : ∃ L, Hid (emL (refB n) = L) := ⟨_, Lib.hid rfl⟩
  obtain ⟨L4, HL4⟩ : ∃ L, Hid (refE n = L) := ⟨_, Lib.hid rfl⟩
  have F2 : ∀ x ∈ L2, x < 8 := by rw [← HL2.out]; exact fun x h => em_lt h
  have F3 : ∀ x ∈ L3, x < 8 := by rw [← HL3.out]; exact fun x h => em_lt h
  have F4 : ∀ x ∈ L4, x < 8 := by rw [← HL4.out]; exact fun x h => em_lt h
  rw [show emL (refA n) = L2 from HL2.out] at ln2 hE2
  rw [show emL (refB n) = L3 from HL3.out] at ln3 hE3
  rw [show refE n = L4 from HL4.out] at ln4 hE4
  obtain ⟨k, Hk⟩ : ∃ k, Hid (n / 96 = k) := ⟨_, Lib.hid rfl⟩
  have hk : k < 10 := by have := Hk.out; omega
  obtain ⟨e, He⟩ : ∃ e, Hid (L2.getD (n / 16 % 6) 0 = e) := ⟨_, Lib.hid rfl⟩
  have le : e < 8 := by rw [← He.out]; exact getD_lt (by omega) F2
  obtain ⟨pA, HpA⟩ : ∃ p, Hid (rfA n = p) := ⟨_, Lib.hid rfl⟩
  obtain ⟨pB, HpB⟩ : ∃ p, Hid (rfB n = p) := ⟨_, Lib.hid rfl⟩
  obtain ⟨pC, HpC⟩ : ∃ p, Hid (rfC n = p) := ⟨_, Lib.hid rfl⟩
  obtain ⟨pD, HpD⟩ : ∃ p, Hid (rfD n = p) := ⟨_, Lib.hid rfl⟩
  obtain ⟨f0, Hf0⟩ : ∃ e, Hid (L4.getD 0 0 = e) := ⟨_, Lib.hid rfl⟩
  obtain ⟨f1, Hf1⟩ : ∃ e, Hid (L4.getD 1 0 = e) := ⟨_, Lib.hid rfl⟩
  obtain ⟨f2, Hf2⟩ : ∃ e, Hid (L4.getD 2 0 = e) := ⟨_, Lib.hid rfl⟩
  have lf0 : f0 < 8 := by rw [← Hf0.out]; exact getD_lt (by omega) F4
  have lf1 : f1 < 8 := by rw [← Hf1.out]; exact getD_lt (by omega) F4
  have lf2 : f2 < 8 := by rw [← Hf2.out]; exact getD_lt (by omega) F4
  have XA := Lib.hid (show upd (upd zeroP (1 + 2 * (n % 4)) 66) (2 * (n / 4 % 4)) 66 = pA from HpA.out)
  have XB := Lib.hid (show upd pA e 81 = pB by rw [← HpB.out, ← HpA.out, ← He.out, ← HL2.out]; rfl)
  have XC := Lib.hid (show upd (upd pB (L3.getD (knA k) 0) 78) (L3.getD (knB k) 0) 78 = pC by rw [← HpC.out, ← HpB.out, ← HL3.out, ← Hk.out]; rfl)
  have XD := Lib.hid (show upd (upd (upd pC f0 82) f1 75) f2 82 = pD by rw [← HpD.out, ← HpC.out, ← Hf0.out, ← Hf1.out, ← Hf2.out, ← HL4.out]; rfl)
  have XP := Lib.hid (show rposN n = rookP (rookP (ofP 1 (rowsL (stR (loN pD 8)) (stR pD))) 79 (f2 : Int) (f0 : Int)) 81 (f2 : Int) (f0 : Int) by unfold rposN; rw [HpD.out, HL4.out, Hf0.out, Hf2.out])
  have XR := Lib.hid (show ∀ i, i < 8 → 0 ≤ pD i ∧ pD i ≤ 90 by rw [← HpD.out]; exact rfD_rng n hn)
  have HE2 := Lib.hid (show emR pA 8 = L2 by rw [← HpA.out]; exact hE2)
  have HE3 := Lib.hid (show emR pB 8 = L3 by rw [← HpB.out]; exact hE3)
  have HE4 := Lib.hid (show emR pC 8 = L4 by rw [← HpC.out]; exact hE4)
  have L2n := Lib.hid ln2
  have L3n := Lib.hid ln3
  have L4n := Lib.hid ln4
  clear F2 F4 ln2 ln3 ln4 hE2 hE3 hE4
  have F3 := Lib.hid F3
  go_enter Tryd.func24, Tryd.ntmps24
  go_wp2_with (first
    | (refine step_alloc rfl rfl ?_; intro b2 w1 N R; have HG2 := Lib.hid (Nat.le_of_eq N.at_.symm); have HR2 := Lib.hid R; have HB := Lib.hid N.below; clear N R)
    | (refine arr_alloc rfl 58 rfl 8 .u8 zero58 ?_; intro b3 w1 N R; have HG3 := Lib.hid (show w.heap.size ≤ b3 by have := N.at_; have := HB.out.size; omega); have HD23 := Lib.hid (show b2 ≠ b3 by have := N.at_; have := HR2.out.lt; omega); have HR2 := Lib.hid (HR2.out.later N.below); have HR3 := Lib.hid R; have HB := Lib.hid (below_on HB.out N.below); clear N R)
    | (refine arr_cell rfl 5 _ _ rfl b3 (1 + 2 * (n % 4)) rfl .u8 66 rfl 58 8 zeroP ?_ (by omega) size5 ?_; exact HR3.out; intro w2 U R; have HR2 := Lib.hid (HR2.out.apart U HD23.out); have HR3 := Lib.hid (show Blk _ b3 58 (arrA 8 .u8 (upd zeroP (1 + 2 * (n % 4)) 66)) from R); have HB := Lib.hid (HB.out.trans (U.below HG3.out)); clear U R)
    | (refine arr_cell rfl 5 _ _ rfl b3 (2 * (n / 4 % 4)) rfl .u8 66 rfl 58 8 (upd zeroP (1 + 2 * (n % 4)) 66) ?_ (by omega) size5 ?_; exact HR3.out; intro w2 U R; rw [XA.out] at R; have HR2 := Lib.hid (HR2.out.apart U HD23.out); have HR3 := Lib.hid R; have HB := Lib.hid (HB.out.trans (U.below HG3.out)); clear U R)
    | (refine arr_load rfl 58 _ rfl b3 rfl 8 .u8 pA ?_ _ Tryd.underlying58 rfl size58 ?_; exact HR3.out))
  refine (empties_any pA _).mono ?_; rintro e wn ⟨u, rfl, hl, hb⟩
  rw [HE2.out] at hl
  obtain ⟨g2, cg2, xg2, L0⟩ := listedK_open hl (by rw [L2n.out]; omega)
  obtain rfl := L0.val
  have Hg2 := Lib.hid L0.zero
  have Dg2 := Lib.hid (show g2 ≠ b3 by have := L0.base; have := HR3.out.lt; omega)
  have HR2 := Lib.hid (HR2.out.later hb); have HR3 := Lib.hid (HR3.out.later hb); have HB := Lib.hid (below_on HB.out hb)
  clear hl hb L0
  rw [L2n.out]
  have hc2 := lies_at Hg2.out (n / 16 % 6) e (by rw [L2n.out]; omega) He.out
  go_wp2_with (first
    | (refine arr_cell rfl 5 _ _ rfl b3 e rfl .u8 81 rfl 58 8 pA ?_ le size5 ?_; exact HR3.out; intro w2 U R; rw [XB.out] at R; clear hc2; have HR2 := Lib.hid (HR2.out.apart U HD23.out); have HR3 := Lib.hid R; have HB := Lib.hid (HB.out.trans (U.below HG3.out)); clear U R)
    | (refine arr_load rfl 58 _ rfl b3 rfl 8 .u8 pB ?_ _ Tryd.underlying58 rfl size58 ?_; exact HR3.out))
  refine (empties_any pB _).mono ?_; rintro e wn ⟨u, rfl, hl, hb⟩
  rw [HE3.out] at hl
  obtain ⟨g3, cg3, xg3, L0⟩ := listedK_open hl (by rw [L3n.out]; omega)
  obtain rfl := L0.val
  have Hg3 := Lib.hid L0.zero
  have Dg3 := Lib.hid (show g3 ≠ b3 by have := L0.base; have := HR3.out.lt; omega)
  have HR2 := Lib.hid (HR2.out.later hb); have HR3 := Lib.hid (HR3.out.later hb); have HB := Lib.hid (below_on HB.out hb)
  clear hl hb L0
  rw [L3n.out]
  go_wp2_with fail
  rw [show ((n : Int) / 96) = (k : Int) by have := Hk.out; omega]
  have Hg3o := Lib.hid Hg3.out
  go_loopw [6, 7] (fun c a wr => ∃ i : Nat, i ≤ 5 ∧ a = .int .i64 (i : Int) ∧ c = .int .i64 ((cA i : Nat) : Int) ∧ Lies .i64 3 0 L3 (.slice (some ⟨g3, 0, none⟩) L3.length cg3) g3 cg3 xg3 wr ∧ Blk wr b3 58 (arrA 8 .u8 (rcN pB pC k (cA i))) ∧ Row wr b2 zeroP ∧ Below w.heap.size w wr) (fun _ a _ => 5 - (intOf a).toNat)
  case atStart => exact ⟨0, by omega, rfl, rfl, Hg3.out, by rw [show rcN pB pC k (cA 0) = pB from if_neg (by show ¬ (k < 0); omega)]; exact HR3.out, HR2.out, HB.out⟩
  case round =>
    clear HB HR2 HR3 Hg3 Hg3o
    obtain ⟨i, hi, rfl, rfl, hg3, h3, h2, hb⟩ := hrel
    have Hg3 := Lib.hid hg3
    have HR3 := Lib.hid h3
    have HR2 := Lib.hid h2
    have HB := Lib.hid hb
    clear hg3 h3 h2 hb
    by_cases hlt : i < 5
    · have g0 : decide ((i : Int) < 5) = true := decide_eq_true (by omega)
      go_wp2_with fail
      clear g0
      go_loopw [6, 8] (fun c b wr => ∃ j : Nat, i < j ∧ j ≤ 5 ∧ b = .int .i64 (j : Int) ∧ c = .int .i64 ((prN i j : Nat) : Int) ∧ Lies .i64 3 0 L3 (.slice (some ⟨g3, 0, none⟩) L3.length cg3) g3 cg3 xg3 wr ∧ Blk wr b3 58 (arrA 8 .u8 (rcN pB pC k (prN i j))) ∧ Row wr b2 zeroP ∧ Below w.heap.size w wr) (fun _ b _ => 5 - (intOf b).toNat)
      case atStart => exact ⟨i + 1, by omega, by omega, by go_num, by rw [pr_first], Hg3.out, by rw [pr_first]; exact HR3.out, HR2.out, HB.out⟩
      case round =>
        clear HB HR2 HR3 Hg3
        obtain ⟨j, hij, hj, rfl, rfl, hg3, h3, h2, hb⟩ := hrel
        have Hg3 := Lib.hid hg3
        have HR3 := Lib.hid h3
        have HR2 := Lib.hid h2
        have HB := Lib.hid hb
        clear hg3 h3 h2 hb
        obtain ⟨m, Hm⟩ : ∃ m, Hid (prN i j = m) := ⟨_, Lib.hid rfl⟩
        have lm : m ≤ 20 := by rw [← Hm.out]; exact pr_le hlt hj
        by_cases hlt' : j < 5
        · have HN := Lib.hid (show prN i (j + 1) = m + 1 by rw [← Hm.out]; exact pr_next hij)
          rw [Hm.out] at HR3
          rw [Hm.out]
          cases g : ((m : Int) == (k : Int))
          · have hne : m ≠ k := by intro h; rw [h] at g; simp at g
            go_wp2_with fail
            go_roundw
            case rel => exact ⟨j + 1, by omega, by omega, by go_num, by rw [HN.out]; go_num, Hg3.out, by rw [HN.out, rc_same hne]; exact HR3.out, HR2.out, HB.out⟩
            case measure => simp [intOf]; omega
          · have HQ := Lib.hid (show m = k by simp at g; omega)
            obtain ⟨hka, hkb⟩ := pr_hit hlt hlt' hij
            rw [Hm.out, HQ.out] at hka hkb
            obtain ⟨ea, Hea⟩ : ∃ e, Hid (L3.getD i 0 = e) := ⟨_, Lib.hid rfl⟩
            obtain ⟨eb, Heb⟩ : ∃ e, Hid (L3.getD j 0 = e) := ⟨_, Lib.hid rfl⟩
            have la : ea < 8 := by rw [← Hea.out]; exact getD_lt (by rw [L3n.out]; omega) F3.out
            have lb : eb < 8 := by rw [← Heb.out]; exact getD_lt (by rw [L3n.out]; omega) F3.out
            have XC' := Lib.hid (show upd (upd pB ea 78) eb 78 = pC by rw [← Hea.out, ← Heb.out, ← XC.out, hka, hkb])
            have HR3 := Lib.hid (show Blk wr b3 58 (arrA 8 .u8 pB) by have := HR3.out; rwa [HQ.out, rc_at] at this)
            have hca := lies_at Hg3.out i ea (by rw [L3n.out]; omega) Hea.out
            clear hka hkb
            go_wp2_with (first
              | (refine arr_cell rfl 5 _ _ rfl b3 ea rfl .u8 78 rfl 58 8 pB ?_ la size5 ?_; exact HR3.out; intro w2 U R; clear hca; have HR2 := Lib.hid (HR2.out.apart U HD23.out); have Hg3 := Lib.hid (Hg3.out.apart U Dg3.out); have hcb := lies_at Hg3.out j eb (by rw [L3n.out]; omega) Heb.out; have HR3 := Lib.hid R; have HB := Lib.hid (HB.out.trans (U.below HG3.out)); clear U R)
              | (refine arr_cell rfl 5 _ _ rfl b3 eb rfl .u8 78 rfl 58 8 (upd pB ea 78) ?_ lb size5 ?_; exact HR3.out; intro w2 U R; clear hcb; have HR2 := Lib.hid (HR2.out.apart U HD23.out); have Hg3 := Lib.hid (Hg3.out.apart U Dg3.out); have HR3 := Lib.hid R; have HB := Lib.hid (HB.out.trans (U.below HG3.out)); clear U R))
            go_roundw
            case rel => exact ⟨j + 1, by omega, by omega, by go_num, by rw [HN.out]; go_num, Hg3.out, by rw [HN.out, HQ.out, rc_past, ← XC'.out]; exact HR3.out, HR2.out, HB.out⟩
            case measure => simp [intOf]; omega
        · obtain rfl : j = 5 := by omega
          have HN := Lib.hid (show cA (i + 1) = m by rw [← Hm.out]; exact (pr_last hlt).symm)
          rw [Hm.out] at HR3
          rw [Hm.out]
          go_wp2_with fail
          go_roundw
          case rel => exact ⟨i + 1, by omega, by go_num, by rw [HN.out], Hg3.out, by rw [HN.out]; exact HR3.out, HR2.out, HB.out⟩
          case measure => simp [intOf]; omega
    · obtain rfl : i = 5 := by omega
      have HR3 := Lib.hid (show Blk wr b3 58 (arrA 8 .u8 pC) by have := HR3.out; rwa [show rcN pB pC k (cA 5) = pC from if_pos hk] at this)
      rw [show ((cA 5 : Nat) : Int) = 10 from rfl, show ((5 : Nat) : Int) = 5 from rfl]
      go_wp2_with (refine arr_load rfl 58 _ rfl b3 rfl 8 .u8 pC ?_ _ Tryd.underlying58 rfl size58 ?_; exact HR3.out)
      refine (empties_any pC _).mono ?_; rintro e wn ⟨u, rfl, hl, hb⟩
      rw [HE4.out] at hl
      obtain ⟨g4, cg4, xg4, L0⟩ := listedK_open hl (by rw [L4n.out]; omega)
      obtain rfl := L0.val
      have Hg4 := Lib.hid L0.zero
      have Dg4 := Lib.hid (show g4 ≠ b3 by have := L0.base; have := HR3.out.lt; omega)
      have HR2 := Lib.hid (HR2.out.later hb); have HR3 := Lib.hid (HR3.out.later hb); have HB := Lib.hid (below_on HB.out hb)
      clear hl hb L0
      rw [L4n.out]
      have hd0 := lies_at Hg4.out 0 f0 (by rw [L4n.out]; omega) Hf0.out
      have hd1 := lies_at Hg4.out 1 f1 (by rw [L4n.out]; omega) Hf1.out
      have hd2 := lies_at Hg4.out 2 f2 (by rw [L4n.out]; omega) Hf2.out
      go_wp2_with (first
        | (refine arr_cell rfl 5 _ _ rfl b3 f0 rfl .u8 82 rfl 58 8 pC ?_ lf0 size5 ?_; exact HR3.out; intro w2 U R; clear hd0 hd1 hd2; have HR2 := Lib.hid (HR2.out.apart U HD23.out); have Hg4 := Lib.hid (Hg4.out.apart U Dg4.out); have hd1 := lies_at Hg4.out 1 f1 (by rw [L4n.out]; omega) Hf1.out; have hd2 := lies_at Hg4.out 2 f2 (by rw [L4n.out]; omega) Hf2.out; have HR3 := Lib.hid R; have HB := Lib.hid (HB.out.trans (U.below HG3.out)); clear U R)
        | (refine arr_cell rfl 5 _ _ rfl b3 f1 rfl .u8 75 rfl 58 8 (upd pC f0 82) ?_ lf1 size5 ?_; exact HR3.out; intro w2 U R; clear hd1 hd2; have HR2 := Lib.hid (HR2.out.apart U HD23.out); have Hg4 := Lib.hid (Hg4.out.apart U Dg4.out); have hd2 := lies_at Hg4.out 2 f2 (by rw [L4n.out]; omega) Hf2.out; have HR3 := Lib.hid R; have HB := Lib.hid (HB.out.trans (U.below HG3.out)); clear U R)
        | (refine arr_cell rfl 5 _ _ rfl b3 f2 rfl .u8 82 rfl 58 8 (upd (upd pC f0 82) f1 75) ?_ lf2 size5 ?_; exact HR3.out; intro w2 U R; clear hd2; have HR2 := Lib.hid (HR2.out.apart U HD23.out); have Hg4 := Lib.hid (Hg4.out.apart U Dg4.out); have hd2 := lies_at Hg4.out 2 f2 (by rw [L4n.out]; omega) Hf2.out; have HR3 := Lib.hid R; have HB := Lib.hid (HB.out.trans (U.below HG3.out)); clear U R)
        | (refine arr_alloc rfl 58 rfl 8 .u8 zero58 ?_; clear hd2; intro b9 w1 N R; have HG9 := Lib.hid (show w.heap.size ≤ b9 by have := N.at_; have := HB.out.size; omega); have HD29 := Lib.hid (show b2 ≠ b9 by have := N.at_; have := HR2.out.lt; omega); have HD39 := Lib.hid (show b3 ≠ b9 by have := N.at_; have := HR3.out.lt; omega); have HD49 := Lib.hid (show g4 ≠ b9 by have := N.at_; have := Hg4.out.blk.lt; omega); have HR2 := Lib.hid (HR2.out.later N.below); have HR3 := Lib.hid (HR3.out.later N.below); have Hg4 := Lib.hid (Hg4.out.later N.below); have HR9 := Lib.hid R; have HB := Lib.hid (below_on HB.out N.below); clear N R))
      rw [XD.out] at HR3
      go_loopw [10] (fun f wr => ∃ i : Nat, i ≤ 8 ∧ f = .int .i64 (i : Int) ∧ Blk wr b9 58 (arrA 8 .u8 (loN pD i)) ∧ Lies .i64 3 0 L4 (.slice (some ⟨g4, 0, none⟩) L4.length cg4) g4 cg4 xg4 wr ∧ Blk wr b3 58 (arrA 8 .u8 pD) ∧ Row wr b2 zeroP ∧ Below w.heap.size w wr) (fun f _ => 8 - (intOf f).toNat)
      case atStart => exact ⟨0, by omega, rfl, HR9.out, Hg4.out, HR3.out, HR2.out, HB.out⟩
      case round =>
        clear HB HR2 HR3 HR9 Hg4 Hg3
        obtain ⟨i, hi, rfl, h9, hg4, h3, h2, hb⟩ := hrel
        have Hg4 := Lib.hid hg4
        have HR9 := Lib.hid h9
        have HR3 := Lib.hid h3
        have HR2 := Lib.hid h2
        have HB := Lib.hid hb
        clear h9 hg4 h3 h2 hb
        by_cases hlt : i < 8
        · obtain ⟨x, Hx⟩ : ∃ x, Hid (pD i = x) := ⟨_, Lib.hid rfl⟩
          have hx := XR.out i hlt
          rw [Hx.out] at hx
          obtain ⟨hx0, hx1⟩ := hx
          obtain ⟨q, Hq⟩ : ∃ q, Hid (loN pD i = q) := ⟨_, Lib.hid rfl⟩
          have HN := Lib.hid (show loN pD (i + 1) = upd q i (x + 32) by rw [← Hq.out, ← Hx.out]; rfl)
          have hc := HR3.out.at i hlt
          rw [Hx.out] at hc
          rw [Hq.out] at HR9
          go_wp2_with (refine arr_cell rfl 5 _ _ rfl b9 i rfl .u8 (x + 32) rfl 58 8 q ?_ hlt size5 ?_; exact HR9.out; intro w2 U R; clear hc; have HR2 := Lib.hid (HR2.out.apart U HD29.out); have HR3 := Lib.hid (HR3.out.apart U HD39.out); have Hg4 := Lib.hid (Hg4.out.apart U HD49.out); have HR9 := Lib.hid R; have HB := Lib.hid (HB.out.trans (U.below HG9.out)); clear U R)
          go_roundw
          case rel => exact ⟨i + 1, by omega, by go_num, by rw [HN.out]; exact HR9.out, Hg4.out, HR3.out, HR2.out, HB.out⟩
          case measure => simp [intOf]; omega
        · obtain rfl : i = 8 := by omega
          obtain ⟨pL, HpL⟩ : ∃ p, Hid (loN pD 8 = p) := ⟨_, Lib.hid rfl⟩
          rw [HpL.out] at HR9 XP
          obtain ⟨lo, Hlo⟩ : ∃ s, Hid (stR pL = s) := ⟨_, Lib.hid rfl⟩
          obtain ⟨up, Hup⟩ : ∃ s, Hid (stR pD = s) := ⟨_, Lib.hid rfl⟩
          have Slo := Lib.hid (show lo.size ≤ 8 by rw [← Hlo.out, stR_size]; omega)
          have Sup := Lib.hid (show up.size ≤ 8 by rw [← Hup.out, stR_size]; omega)
          rw [Hlo.out, Hup.out] at XP
          obtain ⟨pO, HpO⟩ : ∃ p, Hid (ofP 1 (rowsL lo up) = p) := ⟨_, Lib.hid rfl⟩
          rw [HpO.out] at XP
          rw [show ((8 : Nat) : Int) = 8 from rfl]
          go_wp2_with fail
          have hw0 : IntKind.i8.wrap (f0 : Int) = (f0 : Int) := IntWalk.i8_in _ (by omega)
          have hw2 : IntKind.i8.wrap (f2 : Int) = (f2 : Int) := IntWalk.i8_in _ (by omega)
          refine late_begin 7 (by kernel_rfl) ?_
          refine late_take 0 (by kernel_rfl) (by kernel_rfl) (by kernel_rfl) (by kernel_rfl) (by kernel_rfl) (fun _ _ d _ _ h => by cases d <;> exact h) (fun o ho => ?_)
          simp only [List.getElem?_toArray, List.getElem?_cons_zero, List.getElem?_cons_succ, Option.some.injEq] at ho; subst ho
          apply Exists.intro
          refine ⟨Or.inl ⟨by kernel_rfl, fun w' hl => Or.inl ?_⟩, ?_⟩
          · (go_simp; try with_reducible rfl)
          simp only [Act.put, List.setIfInBounds_toArray, List.set_cons_zero, List.set_cons_succ]
          refine late_take 1 (by kernel_rfl) (by kernel_rfl) (by kernel_rfl) (by kernel_rfl) (by kernel_rfl) (fun _ _ d _ _ h => by cases d <;> exact h) (fun o ho => ?_)
          simp only [List.getElem?_toArray, List.getElem?_cons_zero, List.getElem?_cons_succ, Option.some.injEq] at ho; subst ho
          refine ⟨.string lo, Or.inl ⟨by kernel_rfl, fun w' hl => Or.inl (by rw [← Hlo.out]; exact run_text _ rfl b9 rfl pL (HR9.out.later hl))⟩, ?_⟩
          simp only [Act.put, List.setIfInBounds_toArray, List.set_cons_zero, List.set_cons_succ]
          refine late_take 2 (by kernel_rfl) (by kernel_rfl) (by kernel_rfl) (by kernel_rfl) (by kernel_rfl) (fun _ _ d _ _ h => by cases d <;> exact h) (fun o ho => ?_)
          simp only [List.getElem?_toArray, List.getElem?_cons_zero, List.getElem?_cons_succ, Option.some.injEq] at ho; subst ho
          apply Exists.intro
          refine ⟨Or.inl ⟨by kernel_rfl, fun w' hl => Or.inl ?_⟩, ?_⟩
          · (go_simp; try with_reducible rfl)
          simp only [Act.put, List.setIfInBounds_toArray, List.set_cons_zero, List.set_cons_succ]
          refine late_take 3 (by kernel_rfl) (by kernel_rfl) (by kernel_rfl) (by kernel_rfl) (by kernel_rfl) (fun _ _ d _ _ h => by cases d <;> exact h) (fun o ho => ?_)
          simp only [List.getElem?_toArray, List.getElem?_cons_zero, List.getElem?_cons_succ, Option.some.injEq] at ho; subst ho
          refine ⟨.string up, Or.inl ⟨by kernel_rfl, fun w' hl => Or.inl (by rw [← Hup.out]; exact run_text _ rfl b3 rfl pD (HR3.out.later hl))⟩, ?_⟩
          simp only [Act.put, List.setIfInBounds_toArray, List.set_cons_zero, List.set_cons_succ]
          refine late_fork 4 6 (by kernel_rfl) (by kernel_rfl) (by kernel_rfl) (fun o ho => ?_) (fun o ho => ?_)
          · simp only [List.getElem?_toArray, List.getElem?_cons_zero, List.getElem?_cons_succ, Option.some.injEq] at ho; subst ho
            refine ⟨by kernel_rfl, fun wn hl K hK => ?_⟩
            have HR2 := Lib.hid (HR2.out.later hl); have HR3 := Lib.hid (HR3.out.later hl); have HR9 := Lib.hid (HR9.out.later hl); have Hg4 := Lib.hid (Hg4.out.later hl); have HB := Lib.hid (below_on HB.out hl); clear hl
            refine late_rows _ rfl lo up (by kernel_rfl) ?_; intro bS wm N R
            have hb := N.below
            have HRn := Lib.hid R
            clear N R
            refine hK.out _ _ hb ?_
            have HR2 := Lib.hid (HR2.out.later hb); have HR3 := Lib.hid (HR3.out.later hb); have HR9 := Lib.hid (HR9.out.later hb); have Hg4 := Lib.hid (Hg4.out.later hb); have HB := Lib.hid (below_on HB.out hb); clear hb
            have HRS := HRn; clear HRn
            clear hK K
            simp only [Act.put, List.setIfInBounds_toArray, List.set_cons_zero, List.set_cons_succ]
            refine late_fork 5 6 (by kernel_rfl) (by kernel_rfl) (by kernel_rfl) (fun o ho => ?_) (fun o ho => ?_)
            · simp only [List.getElem?_toArray, List.getElem?_cons_zero, List.getElem?_cons_succ, Option.some.injEq] at ho; subst ho
              refine ⟨by kernel_rfl, fun wn hl K hK => ?_⟩
              have HR2 := Lib.hid (HR2.out.later hl); have HR3 := Lib.hid (HR3.out.later hl); have HR9 := Lib.hid (HR9.out.later hl); have Hg4 := Lib.hid (Hg4.out.later hl); have HRS := Lib.hid (HRS.out.later hl); have HB := Lib.hid (below_on HB.out hl); clear hl
              refine wp_enter _ _ (by go_simp; exact ⟨rfl, rfl⟩) ?_
              refine (ofrows_any 1 (rowsL lo up) bS 8 _ rfl (rowsL_size lo up Slo.out Sup.out) HRS.out).mono ?_; rintro e wm ⟨rfl, hb⟩; refine ⟨_, rfl, ?_⟩
              rw [HpO.out]
              refine hK.out _ _ hb ?_
              have HR2 := Lib.hid (HR2.out.later hb); have HR3 := Lib.hid (HR3.out.later hb); have HR9 := Lib.hid (HR9.out.later hb); have Hg4 := Lib.hid (Hg4.out.later hb); have HRS := Lib.hid (HRS.out.later hb); have HB := Lib.hid (below_on HB.out hb); clear hb
              clear hK K
              simp only [Act.put, List.setIfInBounds_toArray, List.set_cons_zero, List.set_cons_succ]
              refine late_one 6 (by kernel_rfl) (by kernel_rfl) (fun o ho => ?_)
              simp only [List.getElem?_toArray, List.getElem?_cons_zero, List.getElem?_cons_succ, Option.some.injEq] at ho; subst ho
              refine ⟨by kernel_rfl, fun wn hl K hK => ?_⟩
              have HR2 := Lib.hid (HR2.out.later hl); have HR3 := Lib.hid (HR3.out.later hl); have HR9 := Lib.hid (HR9.out.later hl); have Hg4 := Lib.hid (Hg4.out.later hl); have HRS := Lib.hid (HRS.out.later hl); have HB := Lib.hid (below_on HB.out hl); clear hl
              refine late_alloc rfl ?_; intro b11 wm N R
              have HDx2 := Lib.hid (show b2 ≠ b11 by have := N.at_; have := HR2.out.lt; omega)
              have HDx4 := Lib.hid (show g4 ≠ b11 by have := N.at_; have := Hg4.out.blk.lt; omega)
              have HG11 := Lib.hid (show w.heap.size ≤ b11 by have := HB.out.size; have := N.at_; omega)
              have hb := N.below
              have HRn := Lib.hid R
              clear N R
              refine hK.out _ _ hb ?_
              have HR2 := Lib.hid (HR2.out.later hb); have HR3 := Lib.hid (HR3.out.later hb); have HR9 := Lib.hid (HR9.out.later hb); have Hg4 := Lib.hid (Hg4.out.later hb); have HRS := Lib.hid (HRS.out.later hb); have HB := Lib.hid (below_on HB.out hb); clear hb
              have HR11 := HRn; clear HRn
              clear hK K
              simp only [Act.put, List.setIfInBounds_toArray, List.set_cons_zero, List.set_cons_succ]
              refine late_last 7 (by kernel_rfl) (by kernel_rfl) (by kernel_rfl) (fun o ho => ?_)
              simp only [List.getElem?_toArray, List.getElem?_cons_zero, List.getElem?_cons_succ, Option.some.injEq] at ho; subst ho
              refine ⟨by kernel_rfl, fun wn hl K hK => ?_⟩
              have HR2 := Lib.hid (HR2.out.later hl); have HR3 := Lib.hid (HR3.out.later hl); have HR9 := Lib.hid (HR9.out.later hl); have Hg4 := Lib.hid (Hg4.out.later hl); have HRS := Lib.hid (HRS.out.later hl); have HR11 := Lib.hid (HR11.out.later hl); have HB := Lib.hid (below_on HB.out hl); clear hl
              refine late_whole _ _ rfl b11 rfl zeroP pO rfl HR11.out ?_; intro wm U R
              have HR2 := Lib.hid (HR2.out.apart U HDx2.out); have Hg4 := Lib.hid (Hg4.out.apart U HDx4.out); have HR11 := Lib.hid R; have HB := Lib.hid (HB.out.trans (U.below HG11.out)); clear U R
              refine hK.out _ _ ?_
              clear hK K
              simp only [Act.put, List.setIfInBounds_toArray, List.set_cons_zero, List.set_cons_succ]
              go_wp2_with fail
              refine late_begin 20 (by kernel_rfl) ?_
              refine late_take 0 (by kernel_rfl) (by kernel_rfl) (by kernel_rfl) (by kernel_rfl) (by kernel_rfl) (fun _ _ d _ _ h => by cases d <;> exact h) (fun o ho => ?_)
              simp only [List.getElem?_toArray, List.getElem?_cons_zero, List.getElem?_cons_succ, Option.some.injEq] at ho; subst ho
              apply Exists.intro
              refine ⟨Or.inl ⟨by kernel_rfl, fun w' hl => Or.inl ?_⟩, ?_⟩
              · (go_simp; try with_reducible rfl)
              simp only [Act.put, List.setIfInBounds_toArray, List.set_cons_zero, List.set_cons_succ]
              refine late_take 1 (by kernel_rfl) (by kernel_rfl) (by kernel_rfl) (by kernel_rfl) (by kernel_rfl) (fun _ _ d _ _ h => by cases d <;> exact h) (fun o ho => ?_)
              simp only [List.getElem?_toArray, List.getElem?_cons_zero, List.getElem?_cons_succ, Option.some.injEq] at ho; subst ho
              apply Exists.intro
              refine ⟨Or.inl ⟨by kernel_rfl, fun w' hl => Or.inl ?_⟩, ?_⟩
              · (go_simp; try with_reducible rfl)
              simp only [Act.put, List.setIfInBounds_toArray, List.set_cons_zero, List.set_cons_succ]
              refine late_take 2 (by kernel_rfl) (by kernel_rfl) (by kernel_rfl) (by kernel_rfl) (by kernel_rfl) (fun _ _ d _ _ h => by cases d <;> exact h) (fun o ho => ?_)
              simp only [List.getElem?_toArray, List.getElem?_cons_zero, List.getElem?_cons_succ, Option.some.injEq] at ho; subst ho
              refine ⟨.int .i64 (f2 : Int), Or.inl ⟨by kernel_rfl, fun w' hl => Or.inl (run_get 3 _ rfl g4 2 rfl Tryd.underlying3 rfl _ (lies_at (Hg4.out.later hl) 2 f2 (by rw [L4n.out]; omega) Hf2.out))⟩, ?_⟩
              simp only [Act.put, List.setIfInBounds_toArray, List.set_cons_zero, List.set_cons_succ]
              refine late_take 3 (by kernel_rfl) (by kernel_rfl) (by kernel_rfl) (by kernel_rfl) (by kernel_rfl) (fun _ _ d _ _ h => by cases d <;> exact h) (fun o ho => ?_)
              simp only [List.getElem?_toArray, List.getElem?_cons_zero, List.getElem?_cons_succ, Option.some.injEq] at ho; subst ho
              apply Exists.intro
              refine ⟨Or.inl ⟨by kernel_rfl, fun w' hl => Or.inl ?_⟩, ?_⟩
              · (go_simp; try with_reducible rfl)
              simp only [Act.put, List.setIfInBounds_toArray, List.set_cons_zero, List.set_cons_succ]
              refine late_take 4 (by kernel_rfl) (by kernel_rfl) (by kernel_rfl) (by kernel_rfl) (by kernel_rfl) (fun _ _ d _ _ h => by cases d <;> exact h) (fun o ho => ?_)
              simp only [List.getElem?_toArray, List.getElem?_cons_zero, List.getElem?_cons_succ, Option.some.injEq] at ho; subst ho
              apply Exists.intro
              refine ⟨Or.inl ⟨by kernel_rfl, fun w' hl => Or.inl ?_⟩, ?_⟩
              · (go_simp; try with_reducible rfl)
              simp only [Act.put, List.setIfInBounds_toArray, List.set_cons_zero, List.set_cons_succ]
              refine late_take 5 (by kernel_rfl) (by kernel_rfl) (by kernel_rfl) (by kernel_rfl) (by kernel_rfl) (fun _ _ d _ _ h => by cases d <;> exact h) (fun o ho => ?_)
              simp only [List.getElem?_toArray, List.getElem?_cons_zero, List.getElem?_cons_succ, Option.some.injEq] at ho; subst ho
              apply Exists.intro
              refine ⟨Or.inl ⟨by kernel_rfl, fun w' hl => Or.inl ?_⟩, ?_⟩
              · (go_simp; try with_reducible rfl)
              simp only [Act.put, List.setIfInBounds_toArray, List.set_cons_zero, List.set_cons_succ]
              refine late_take 6 (by kernel_rfl) (by kernel_rfl) (by kernel_rfl) (by kernel_rfl) (by kernel_rfl) (fun _ _ d _ _ h => by cases d <;> exact h) (fun o ho => ?_)
              simp only [List.getElem?_toArray, List.getElem?_cons_zero, List.getElem?_cons_succ, Option.some.injEq] at ho; subst ho
              refine ⟨.int .i64 (f0 : Int), Or.inl ⟨by kernel_rfl, fun w' hl => Or.inl (run_get 3 _ rfl g4 0 rfl Tryd.underlying3 rfl _ (lies_at (Hg4.out.later hl) 0 f0 (by rw [L4n.out]; omega) Hf0.out))⟩, ?_⟩
              simp only [Act.put, List.setIfInBounds_toArray, List.set_cons_zero, List.set_cons_succ]
              refine late_take 7 (by kernel_rfl) (by kernel_rfl) (by kernel_rfl) (by kernel_rfl) (by kernel_rfl) (fun _ _ d _ _ h => by cases d <;> exact h) (fun o ho => ?_)
              simp only [List.getElem?_toArray, List.getElem?_cons_zero, List.getElem?_cons_succ, Option.some.injEq] at ho; subst ho
              apply Exists.intro
              refine ⟨Or.inl ⟨by kernel_rfl, fun w' hl => Or.inl ?_⟩, ?_⟩
              · (go_simp; try with_reducible rfl)
              simp only [Act.put, List.setIfInBounds_toArray, List.set_cons_zero, List.set_cons_succ]
              refine late_take 8 (by kernel_rfl) (by kernel_rfl) (by kernel_rfl) (by kernel_rfl) (by kernel_rfl) (fun _ _ d _ _ h => by cases d <;> exact h) (fun o ho => ?_)
              simp only [List.getElem?_toArray, List.getElem?_cons_zero, List.getElem?_cons_succ, Option.some.injEq] at ho; subst ho
              refine ⟨.agg #[.int .i8 (f2 : Int), .int .i8 (f0 : Int)], Or.inl ⟨by kernel_rfl, fun w' hl => Or.inl (run_built 35 _ rfl _ (by kernel_rfl))⟩, ?_⟩
              simp only [Act.put, List.setIfInBounds_toArray, List.set_cons_zero, List.set_cons_succ]
              refine late_take 9 (by kernel_rfl) (by kernel_rfl) (by kernel_rfl) (by kernel_rfl) (by kernel_rfl) (fun _ _ d _ _ h => by cases d <;> exact h) (fun o ho => ?_)
              simp only [List.getElem?_toArray, List.getElem?_cons_zero, List.getElem?_cons_succ, Option.some.injEq] at ho; subst ho
              apply Exists.intro
              refine ⟨Or.inl ⟨by kernel_rfl, fun w' hl => Or.inl ?_⟩, ?_⟩
              · (go_simp; try with_reducible rfl)
              simp only [Act.put, List.setIfInBounds_toArray, List.set_cons_zero, List.set_cons_succ]
              refine late_take 10 (by kernel_rfl) (by kernel_rfl) (by kernel_rfl) (by kernel_rfl) (by kernel_rfl) (fun _ _ d _ _ h => by cases d <;> exact h) (fun o ho => ?_)
              simp only [List.getElem?_toArray, List.getElem?_cons_zero, List.getElem?_cons_succ, Option.some.injEq] at ho; subst ho
              apply Exists.intro
              refine ⟨Or.inl ⟨by kernel_rfl, fun w' hl => Or.inl ?_⟩, ?_⟩
              · (go_simp; try with_reducible rfl)
              simp only [Act.put, List.setIfInBounds_toArray, List.set_cons_zero, List.set_cons_succ]
              refine late_take 11 (by kernel_rfl) (by kernel_rfl) (by kernel_rfl) (by kernel_rfl) (by kernel_rfl) (fun _ _ d _ _ h => by cases d <;> exact h) (fun o ho => ?_)
              simp only [List.getElem?_toArray, List.getElem?_cons_zero, List.getElem?_cons_succ, Option.some.injEq] at ho; subst ho
              refine ⟨.int .i64 (f2 : Int), Or.inl ⟨by kernel_rfl, fun w' hl => Or.inl (run_get 3 _ rfl g4 2 rfl Tryd.underlying3 rfl _ (lies_at (Hg4.out.later hl) 2 f2 (by rw [L4n.out]; omega) Hf2.out))⟩, ?_⟩
              simp only [Act.put, List.setIfInBounds_toArray, List.set_cons_zero, List.set_cons_succ]
              refine late_take 12 (by kernel_rfl) (by kernel_rfl) (by kernel_rfl) (by kernel_rfl) (by kernel_rfl) (fun _ _ d _ _ h => by cases d <;> exact h) (fun o ho => ?_)
              simp only [List.getElem?_toArray, List.getElem?_cons_zero, List.getElem?_cons_succ, Option.some.injEq] at ho; subst ho
              apply Exists.intro
              refine ⟨Or.inl ⟨by kernel_rfl, fun w' hl => Or.inl ?_⟩, ?_⟩
              · (go_simp; try with_reducible rfl)
              simp only [Act.put, List.setIfInBounds_toArray, List.set_cons_zero, List.set_cons_succ]
              refine late_take 13 (by kernel_rfl) (by kernel_rfl) (by kernel_rfl) (by kernel_rfl) (by kernel_rfl) (fun _ _ d _ _ h => by cases d <;> exact h) (fun o ho => ?_)
              simp only [List.getElem?_toArray, List.getElem?_cons_zero, List.getElem?_cons_succ, Option.some.injEq] at ho; subst ho
              apply Exists.intro
              refine ⟨Or.inl ⟨by kernel_rfl, fun w' hl => Or.inl ?_⟩, ?_⟩
              · (go_simp; try with_reducible rfl)
              simp only [Act.put, List.setIfInBounds_toArray, List.set_cons_zero, List.set_cons_succ]
              refine late_take 14 (by kernel_rfl) (by kernel_rfl) (by kernel_rfl) (by kernel_rfl) (by kernel_rfl) (fun _ _ d _ _ h => by cases d <;> exact h) (fun o ho => ?_)
              simp only [List.getElem?_toArray, List.getElem?_cons_zero, List.getElem?_cons_succ, Option.some.injEq] at ho; subst ho
              apply Exists.intro
              refine ⟨Or.inl ⟨by kernel_rfl, fun w' hl => Or.inl ?_⟩, ?_⟩
              · (go_simp; try with_reducible rfl)
              simp only [Act.put, List.setIfInBounds_toArray, List.set_cons_zero, List.set_cons_succ]
              refine late_take 15 (by kernel_rfl) (by kernel_rfl) (by kernel_rfl) (by kernel_rfl) (by kernel_rfl) (fun _ _ d _ _ h => by cases d <;> exact h) (fun o ho => ?_)
              simp only [List.getElem?_toArray, List.getElem?_cons_zero, List.getElem?_cons_succ, Option.some.injEq] at ho; subst ho
              refine ⟨.int .i64 (f0 : Int), Or.inl ⟨by kernel_rfl, fun w' hl => Or.inl (run_get 3 _ rfl g4 0 rfl Tryd.underlying3 rfl _ (lies_at (Hg4.out.later hl) 0 f0 (by rw [L4n.out]; omega) Hf0.out))⟩, ?_⟩
              simp only [Act.put, List.setIfInBounds_toArray, List.set_cons_zero, List.set_cons_succ]
              refine late_take 16 (by kernel_rfl) (by kernel_rfl) (by kernel_rfl) (by kernel_rfl) (by kernel_rfl) (fun _ _ d _ _ h => by cases d <;> exact h) (fun o ho => ?_)
              simp only [List.getElem?_toArray, List.getElem?_cons_zero, List.getElem?_cons_succ, Option.some.injEq] at ho; subst ho
              apply Exists.intro
              refine ⟨Or.inl ⟨by kernel_rfl, fun w' hl => Or.inl ?_⟩, ?_⟩
              · (go_simp; try with_reducible rfl)
              simp only [Act.put, List.setIfInBounds_toArray, List.set_cons_zero, List.set_cons_succ]
              refine late_take 17 (by kernel_rfl) (by kernel_rfl) (by kernel_rfl) (by kernel_rfl) (by kernel_rfl) (fun _ _ d _ _ h => by cases d <;> exact h) (fun o ho => ?_)
              simp only [List.getElem?_toArray, List.getElem?_cons_zero, List.getElem?_cons_succ, Option.some.injEq] at ho; subst ho
              refine ⟨.agg #[.int .i8 (f2 : Int), .int .i8 (f0 : Int)], Or.inl ⟨by kernel_rfl, fun w' hl => Or.inl (run_built 35 _ rfl _ (by kernel_rfl))⟩, ?_⟩
              simp only [Act.put, List.setIfInBounds_toArray, List.set_cons_zero, List.set_cons_succ]
              refine late_take 18 (by kernel_rfl) (by kernel_rfl) (by kernel_rfl) (by kernel_rfl) (by kernel_rfl) (fun _ _ d _ _ h => by cases d <;> exact h) (fun o ho => ?_)
              simp only [List.getElem?_toArray, List.getElem?_cons_zero, List.getElem?_cons_succ, Option.some.injEq] at ho; subst ho
              refine ⟨.agg #[.int .i8 (f2 : Int), .int .i8 (f0 : Int), .int .i8 (f2 : Int), .int .i8 (f0 : Int)], Or.inl ⟨by kernel_rfl, fun w' hl => Or.inl (run_built 36 _ rfl _ (by kernel_rfl))⟩, ?_⟩
              simp only [Act.put, List.setIfInBounds_toArray, List.set_cons_zero, List.set_cons_succ]
              refine late_take 19 (by kernel_rfl) (by kernel_rfl) (by kernel_rfl) (by kernel_rfl) (by kernel_rfl) (fun _ _ d _ _ h => by cases d <;> exact h) (fun o ho => ?_)
              simp only [List.getElem?_toArray, List.getElem?_cons_zero, List.getElem?_cons_succ, Option.some.injEq] at ho; subst ho
              apply Exists.intro
              refine ⟨Or.inl ⟨by kernel_rfl, fun w' hl => Or.inl ?_⟩, ?_⟩
              · (go_simp; try with_reducible rfl)
              simp only [Act.put, List.setIfInBounds_toArray, List.set_cons_zero, List.set_cons_succ]
              refine late_last 20 (by kernel_rfl) (by kernel_rfl) (by kernel_rfl) (fun o ho => ?_)
              simp only [List.getElem?_toArray, List.getElem?_cons_zero, List.getElem?_cons_succ, Option.some.injEq] at ho; subst ho
              refine ⟨by kernel_rfl, fun wn hl K hK => ?_⟩
              have HR2 := Lib.hid (HR2.out.later hl); have HR11 := Lib.hid (HR11.out.later hl); have Hg4 := Lib.hid (Hg4.out.later hl); have HB := Lib.hid (below_on HB.out hl); clear hl
              refine late_part _ _ rfl b11 rfl pO (rookP (rookP zeroP 79 (f2 : Int) (f0 : Int)) 81 (f2 : Int) (f0 : Int)) (rook4 _ _) HR11.out ?_; intro wm U R
              rw [over_four] at R
              have HR2 := Lib.hid (HR2.out.apart U HDx2.out); have HR11 := Lib.hid R; have HB := Lib.hid (HB.out.trans (U.below HG11.out)); clear U R
              refine hK.out _ _ ?_
              clear hK K
              simp only [Act.put, List.setIfInBounds_toArray, List.set_cons_zero, List.set_cons_succ]
              obtain ⟨pF, HpF⟩ : ∃ p, Hid (rookP (rookP pO 79 (f2 : Int) (f0 : Int)) 81 (f2 : Int) (f0 : Int) = p) := ⟨_, Lib.hid rfl⟩
              rw [HpF.out] at HR11
              go_wp2_with (first | (refine step_load rfl _ rfl b11 rfl pF ?_ ?_; exact HR11.out) | (refine step_store rfl _ _ rfl b2 rfl zeroP pF rfl ?_ ?_; exact HR2.out; intro w2 U R; have HR2 := Lib.hid R; have HB := Lib.hid (HB.out.trans (U.below HG2.out)); clear U R))
              refine bodyPost_ret (v := .agg (posA pF)) (results_row rfl _ _ _ _ rfl HR2.out) rfl ⟨by rw [XP.out, HpF.out], HB.out⟩
            · simp only [List.getElem?_toArray, List.getElem?_cons_zero, List.getElem?_cons_succ, Option.some.injEq] at ho; subst ho
              refine ⟨by kernel_rfl, fun wn hl K hK => ?_⟩
              have HR2 := Lib.hid (HR2.out.later hl); have HR3 := Lib.hid (HR3.out.later hl); have HR9 := Lib.hid (HR9.out.later hl); have Hg4 := Lib.hid (Hg4.out.later hl); have HRS := Lib.hid (HRS.out.later hl); have HB := Lib.hid (below_on HB.out hl); clear hl
              refine late_alloc rfl ?_; intro b11 wm N R
              have HDx2 := Lib.hid (show b2 ≠ b11 by have := N.at_; have := HR2.out.lt; omega)
              have HDx4 := Lib.hid (show g4 ≠ b11 by have := N.at_; have := Hg4.out.blk.lt; omega)
              have HG11 := Lib.hid (show w.heap.size ≤ b11 by have := HB.out.size; have := N.at_; omega)
              have hb := N.below
              have HRn := Lib.hid R
              clear N R
              refine hK.out _ _ hb ?_
              have HR2 := Lib.hid (HR2.out.later hb); have HR3 := Lib.hid (HR3.out.later hb); have HR9 := Lib.hid (HR9.out.later hb); have Hg4 := Lib.hid (Hg4.out.later hb); have HRS := Lib.hid (HRS.out.later hb); have HB := Lib.hid (below_on HB.out hb); clear hb
              have HR11 := HRn; clear HRn
              clear hK K
              simp only [Act.put, List.setIfInBounds_toArray, List.set_cons_zero, List.set_cons_succ]
              refine late_one 5 (by kernel_rfl) (by kernel_rfl) (fun o ho => ?_)
              simp only [List.getElem?_toArray, List.getElem?_cons_zero, List.getElem?_cons_succ, Option.some.injEq] at ho; subst ho
              refine ⟨by kernel_rfl, fun wn hl K hK => ?_⟩
              have HR2 := Lib.hid (HR2.out.later hl); have HR3 := Lib.hid (HR3.out.later hl); have HR9 := Lib.hid (HR9.out.later hl); have Hg4 := Lib.hid (Hg4.out.later hl); have HRS := Lib.hid (HRS.out.later hl); have HR11 := Lib.hid (HR11.out.later hl); have HB := Lib.hid (below_on HB.out hl); clear hl
              refine wp_enter _ _ (by go_simp; exact ⟨rfl, rfl⟩) ?_
              refine (ofrows_any 1 (rowsL lo up) bS 8 _ rfl (rowsL_size lo up Slo.out Sup.out) HRS.out).mono ?_; rintro e wm ⟨rfl, hb⟩; refine ⟨_, rfl, ?_⟩
              rw [HpO.out]
              refine hK.out _ _ hb ?_
              have HR2 := Lib.hid (HR2.out.later hb); have HR3 := Lib.hid (HR3.out.later hb); have HR9 := Lib.hid (HR9.out.later hb); have Hg4 := Lib.hid (Hg4.out.later hb); have HRS := Lib.hid (HRS.out.later hb); have HR11 := Lib.hid (HR11.out.later hb); have HB := Lib.hid (below_on HB.out hb); clear hb
              clear hK K
              simp only [Act.put, List.setIfInBounds_toArray, List.set_cons_zero, List.set_cons_succ]
              refine late_last 7 (by kernel_rfl) (by kernel_rfl) (by kernel_rfl) (fun o ho => ?_)
              simp only [List.getElem?_toArray, List.getElem?_cons_zero, List.getElem?_cons_succ, Option.some.injEq] at ho; subst ho
              refine ⟨by kernel_rfl, fun wn hl K hK => ?_⟩
              have HR2 := Lib.hid (HR2.out.later hl); have HR3 := Lib.hid (HR3.out.later hl); have HR9 := Lib.hid (HR9.out.later hl); have Hg4 := Lib.hid (Hg4.out.later hl); have HRS := Lib.hid (HRS.out.later hl); have HR11 := Lib.hid (HR11.out.later hl); have HB := Lib.hid (below_on HB.out hl); clear hl
              refine late_whole _ _ rfl b11 rfl zeroP pO rfl HR11.out ?_; intro wm U R
              have HR2 := Lib.hid (HR2.out.apart U HDx2.out); have Hg4 := Lib.hid (Hg4.out.apart U HDx4.out); have HR11 := Lib.hid R; have HB := Lib.hid (HB.out.trans (U.below HG11.out)); clear U R
              refine hK.out _ _ ?_
              clear hK K
              simp only [Act.put, List.setIfInBounds_toArray, List.set_cons_zero, List.set_cons_succ]
              go_wp2_with fail
              refine late_begin 20 (by kernel_rfl) ?_
              refine late_take 0 (by kernel_rfl) (by kernel_rfl) (by kernel_rfl) (by kernel_rfl) (by kernel_rfl) (fun _ _ d _ _ h => by cases d <;> exact h) (fun o ho => ?_)
              simp only [List.getElem?_toArray, List.getElem?_cons_zero, List.getElem?_cons_succ, Option.some.injEq] at ho; subst ho
              apply Exists.intro
              refine ⟨Or.inl ⟨by kernel_rfl, fun w' hl => Or.inl ?_⟩, ?_⟩
              · (go_simp; try with_reducible rfl)
              simp only [Act.put, List.setIfInBounds_toArray, List.set_cons_zero, List.set_cons_succ]
              refine late_take 1 (by kernel_rfl) (by kernel_rfl) (by kernel_rfl) (by kernel_rfl) (by kernel_rfl) (fun _ _ d _ _ h => by cases d <;> exact h) (fun o ho => ?_)
              simp only [List.getElem?_toArray, List.getElem?_cons_zero, List.getElem?_cons_succ, Option.some.injEq] at ho; subst ho
              apply Exists.intro
              refine ⟨Or.inl ⟨by kernel_rfl, fun w' hl => Or.inl ?_⟩, ?_⟩
              · (go_simp; try with_reducible rfl)
              simp only [Act.put, List.setIfInBounds_toArray, List.set_cons_zero, List.set_cons_succ]
              refine late_take 2 (by kernel_rfl) (by kernel_rfl) (by kernel_rfl) (by kernel_rfl) (by kernel_rfl) (fun _ _ d _ _ h => by cases d <;> exact h) (fun o ho => ?_)
              simp only [List.getElem?_toArray, List.getElem?_cons_zero, List.getElem?_cons_succ, Option.some.injEq] at ho; subst ho
              refine ⟨.int .i64 (f2 : Int), Or.inl ⟨by kernel_rfl, fun w' hl => Or.inl (run_get 3 _ rfl g4 2 rfl Tryd.underlying3 rfl _ (lies_at (Hg4.out.later hl) 2 f2 (by rw [L4n.out]; omega) Hf2.out))⟩, ?_⟩
              simp only [Act.put, List.setIfInBounds_toArray, List.set_cons_zero, List.set_cons_succ]
              refine late_take 3 (by kernel_rfl) (by kernel_rfl) (by kernel_rfl) (by kernel_rfl) (by kernel_rfl) (fun _ _ d _ _ h => by cases d <;> exact h) (fun o ho => ?_)
              simp only [List.getElem?_toArray, List.getElem?_cons_zero, List.getElem?_cons_succ, Option.some.injEq] at ho; subst ho
              apply Exists.intro
              refine ⟨Or.inl ⟨by kernel_rfl, fun w' hl => Or.inl ?_⟩, ?_⟩
              · (go_simp; try with_reducible rfl)
              simp only [Act.put, List.setIfInBounds_toArray, List.set_cons_zero, List.set_cons_succ]
              refine late_take 4 (by kernel_rfl) (by kernel_rfl) (by kernel_rfl) (by kernel_rfl) (by kernel_rfl) (fun _ _ d _ _ h => by cases d <;> exact h) (fun o ho => ?_)
              simp only [List.getElem?_toArray, List.getElem?_cons_zero, List.getElem?_cons_succ, Option.some.injEq] at ho; subst ho
              apply Exists.intro
              refine ⟨Or.inl ⟨by kernel_rfl, fun w' hl => Or.inl ?_⟩, ?_⟩
              · (go_simp; try with_reducible rfl)
              simp only [Act.put, List.setIfInBounds_toArray, List.set_cons_zero, List.set_cons_succ]
              refine late_take 5 (by kernel_rfl) (by kernel_rfl) (by kernel_rfl) (by kernel_rfl) (by kernel_rfl) (fun _ _ d _ _ h => by cases d <;> exact h) (fun o ho => ?_)
              simp only [List.getElem?_toArray, List.getElem?_cons_zero, List.getElem?_cons_succ, Option.some.injEq] at ho; subst ho
              apply Exists.intro
              refine ⟨Or.inl ⟨by kernel_rfl, fun w' hl => Or.inl ?_⟩, ?_⟩
              · (go_simp; try with_reducible rfl)
              simp only [Act.put, List.setIfInBounds_toArray, List.set_cons_zero, List.set_cons_succ]
              refine late_take 6 (by kernel_rfl) (by kernel_rfl) (by kernel_rfl) (by kernel_rfl) (by kernel_rfl) (fun _ _ d _ _ h => by cases d <;> exact h) (fun o ho => ?_)
              simp only [List.getElem?_toArray, List.getElem?_cons_zero, List.getElem?_cons_succ, Option.some.injEq] at ho; subst ho
              refine ⟨.int .i64 (f0 : Int), Or.inl ⟨by kernel_rfl, fun w' hl => Or.inl (run_get 3 _ rfl g4 0 rfl Tryd.underlying3 rfl _ (lies_at (Hg4.out.later hl) 0 f0 (by rw [L4n.out]; omega) Hf0.out))⟩, ?_⟩
              simp only [Act.put, List.setIfInBounds_toArray, List.set_cons_zero, List.set_cons_succ]
              refine late_take 7 (by kernel_rfl) (by kernel_rfl) (by kernel_rfl) (by kernel_rfl) (by kernel_rfl) (fun _ _ d _ _ h => by cases d <;> exact h) (fun o ho => ?_)
              simp only [List.getElem?_toArray, List.getElem?_cons_zero, List.getElem?_cons_succ, Option.some.injEq] at ho; subst ho
              apply Exists.intro
              refine ⟨Or.inl ⟨by kernel_rfl, fun w' hl => Or.inl ?_⟩, ?_⟩
              · (go_simp; try with_reducible rfl)
              simp only [Act.put, List.setIfInBounds_toArray, List.set_cons_zero, List.set_cons_succ]
              refine late_take 8 (by kernel_rfl) (by kernel_rfl) (by kernel_rfl) (by kernel_rfl) (by kernel_rfl) (fun _ _ d _ _ h => by cases d <;> exact h) (fun o ho => ?_)
              simp only [List.getElem?_toArray, List.getElem?_cons_zero, List.getElem?_cons_succ, Option.some.injEq] at ho; subst ho
              refine ⟨.agg #[.int .i8 (f2 : Int), .int .i8 (f0 : Int)], Or.inl ⟨by kernel_rfl, fun w' hl => Or.inl (run_built 35 _ rfl _ (by kernel_rfl))⟩, ?_⟩
              simp only [Act.put, List.setIfInBounds_toArray, List.set_cons_zero, List.set_cons_succ]
              refine late_take 9 (by kernel_rfl) (by kernel_rfl) (by kernel_rfl) (by kernel_rfl) (by kernel_rfl) (fun _ _ d _ _ h => by cases d <;> exact h) (fun o ho => ?_)
              simp only [List.getElem?_toArray, List.getElem?_cons_zero, List.getElem?_cons_succ, Option.some.injEq] at ho; subst ho
              apply Exists.intro
              refine ⟨Or.inl ⟨by kernel_rfl, fun w' hl => Or.inl ?_⟩, ?_⟩
              · (go_simp; try with_reducible rfl)
              simp only [Act.put, List.setIfInBounds_toArray, List.set_cons_zero, List.set_cons_succ]
              refine late_take 10 (by kernel_rfl) (by kernel_rfl) (by kernel_rfl) (by kernel_rfl) (by kernel_rfl) (fun _ _ d _ _ h => by cases d <;> exact h) (fun o ho => ?_)
              simp only [List.getElem?_toArray, List.getElem?_cons_zero, List.getElem?_cons_succ, Option.some.injEq] at ho; subst ho
              apply Exists.intro
              refine ⟨Or.inl ⟨by kernel_rfl, fun w' hl => Or.inl ?_⟩, ?_⟩
              · (go_simp; try with_reducible rfl)
              simp only [Act.put, List.setIfInBounds_toArray, List.set_cons_zero, List.set_cons_succ]
              refine late_take 11 (by kernel_rfl) (by kernel_rfl) (by kernel_rfl) (by kernel_rfl) (by kernel_rfl) (fun _ _ d _ _ h => by cases d <;> exact h) (fun o ho => ?_)
              simp only [List.getElem?_toArray, List.getElem?_cons_zero, List.getElem?_cons_succ, Option.some.injEq] at ho; subst ho
              refine ⟨.int .i64 (f2 : Int), Or.inl ⟨by kernel_rfl, fun w' hl => Or.inl (run_get 3 _ rfl g4 2 rfl Tryd.underlying3 rfl _ (lies_at (Hg4.out.later hl) 2 f2 (by rw [L4n.out]; omega) Hf2.out))⟩, ?_⟩
              simp only [Act.put, List.setIfInBounds_toArray, List.set_cons_zero, List.set_cons_succ]
              refine late_take 12 (by kernel_rfl) (by kernel_rfl) (by kernel_rfl) (by kernel_rfl) (by kernel_rfl) (fun _ _ d _ _ h => by cases d <;> exact h) (fun o ho => ?_)
              simp only [List.getElem?_toArray, List.getElem?_cons_zero, List.getElem?_cons_succ, Option.some.injEq] at ho; subst ho
              apply Exists.intro
              refine ⟨Or.inl ⟨by kernel_rfl, fun w' hl => Or.inl ?_⟩, ?_⟩
              · (go_simp; try with_reducible rfl)
              simp only [Act.put, List.setIfInBounds_toArray, List.set_cons_zero, List.set_cons_succ]
              refine late_take 13 (by kernel_rfl) (by kernel_rfl) (by kernel_rfl) (by kernel_rfl) (by kernel_rfl) (fun _ _ d _ _ h => by cases d <;> exact h) (fun o ho => ?_)
              simp only [List.getElem?_toArray, List.getElem?_cons_zero, List.getElem?_cons_succ, Option.some.injEq] at ho; subst ho
              apply Exists.intro
              refine ⟨Or.inl ⟨by kernel_rfl, fun w' hl => Or.inl ?_⟩, ?_⟩
              · (go_simp; try with_reducible rfl)
              simp only [Act.put, List.setIfInBounds_toArray, List.set_cons_zero, List.set_cons_succ]
              refine late_take 14 (by kernel_rfl) (by kernel_rfl) (by kernel_rfl) (by kernel_rfl) (by kernel_rfl) (fun _ _ d _ _ h => by cases d <;> exact h) (fun o ho => ?_)
              simp only [List.getElem?_toArray, List.getElem?_cons_zero, List.getElem?_cons_succ, Option.some.injEq] at ho; subst ho
              apply Exists.intro
              refine ⟨Or.inl ⟨by kernel_rfl, fun w' hl => Or.inl ?_⟩, ?_⟩
              · (go_simp; try with_reducible rfl)
              simp only [Act.put, List.setIfInBounds_toArray, List.set_cons_zero, List.set_cons_succ]
              refine late_take 15 (by kernel_rfl) (by kernel_rfl) (by kernel_rfl) (by kernel_rfl) (by kernel_rfl) (fun _ _ d _ _ h => by cases d <;> exact h) (fun o ho => ?_)
              simp only [List.getElem?_toArray, List.getElem?_cons_zero, List.getElem?_cons_succ, Option.some.injEq] at ho; subst ho
              refine ⟨.int .i64 (f0 : Int), Or.inl ⟨by kernel_rfl, fun w' hl => Or.inl (run_get 3 _ rfl g4 0 rfl Tryd.underlying3 rfl _ (lies_at (Hg4.out.later hl) 0 f0 (by rw [L4n.out]; omega) Hf0.out))⟩, ?_⟩
              simp only [Act.put, List.setIfInBounds_toArray, List.set_cons_zero, List.set_cons_succ]
              refine late_take 16 (by kernel_rfl) (by kernel_rfl) (by kernel_rfl) (by kernel_rfl) (by kernel_rfl) (fun _ _ d _ _ h => by cases d <;> exact h) (fun o ho => ?_)
              simp only [List.getElem?_toArray, List.getElem?_cons_zero, List.getElem?_cons_succ, Option.some.injEq] at ho; subst ho
              apply Exists.intro
              refine ⟨Or.inl ⟨by kernel_rfl, fun w' hl => Or.inl ?_⟩, ?_⟩
              · (go_simp; try with_reducible rfl)
              simp only [Act.put, List.setIfInBounds_toArray, List.set_cons_zero, List.set_cons_succ]
              refine late_take 17 (by kernel_rfl) (by kernel_rfl) (by kernel_rfl) (by kernel_rfl) (by kernel_rfl) (fun _ _ d _ _ h => by cases d <;> exact h) (fun o ho => ?_)
              simp only [List.getElem?_toArray, List.getElem?_cons_zero, List.getElem?_cons_succ, Option.some.injEq] at ho; subst ho
              refine ⟨.agg #[.int .i8 (f2 : Int), .int .i8 (f0 : Int)], Or.inl ⟨by kernel_rfl, fun w' hl => Or.inl (run_built 35 _ rfl _ (by kernel_rfl))⟩, ?_⟩
              simp only [Act.put, List.setIfInBounds_toArray, List.set_cons_zero, List.set_cons_succ]
              refine late_take 18 (by kernel_rfl) (by kernel_rfl) (by kernel_rfl) (by kernel_rfl) (by kernel_rfl) (fun _ _ d _ _ h => by cases d <;> exact h) (fun o ho => ?_)
              simp only [List.getElem?_toArray, List.getElem?_cons_zero, List.getElem?_cons_succ, Option.some.injEq] at ho; subst ho
              refine ⟨.agg #[.int .i8 (f2 : Int), .int .i8 (f0 : Int), .int .i8 (f2 : Int), .int .i8 (f0 : Int)], Or.inl ⟨by kernel_rfl, fun w' hl => Or.inl (run_built 36 _ rfl _ (by kernel_rfl))⟩, ?_⟩
              simp only [Act.put, List.setIfInBounds_toArray, List.set_cons_zero, List.set_cons_succ]
              refine late_take 19 (by kernel_rfl) (by kernel_rfl) (by kernel_rfl) (by kernel_rfl) (by kernel_rfl) (fun _ _ d _ _ h => by cases d <;> exact h) (fun o ho => ?_)
              simp only [List.getElem?_toArray, List.getElem?_cons_zero, List.getElem?_cons_succ, Option.some.injEq] at ho; subst ho
              apply Exists.intro
              refine ⟨Or.inl ⟨by kernel_rfl, fun w' hl => Or.inl ?_⟩, ?_⟩
              · (go_simp; try with_reducible rfl)
              simp only [Act.put, List.setIfInBounds_toArray, List.set_cons_zero, List.set_cons_succ]
              refine late_last 20 (by kernel_rfl) (by kernel_rfl) (by kernel_rfl) (fun o ho => ?_)
              simp only [List.getElem?_toArray, List.getElem?_cons_zero, List.getElem?_cons_succ, Option.some.injEq] at ho; subst ho
              refine ⟨by kernel_rfl, fun wn hl K hK => ?_⟩
              have HR2 := Lib.hid (HR2.out.later hl); have HR11 := Lib.hid (HR11.out.later hl); have Hg4 := Lib.hid (Hg4.out.later hl); have HB := Lib.hid (below_on HB.out hl); clear hl
              refine late_part _ _ rfl b11 rfl pO (rookP (rookP zeroP 79 (f2 : Int) (f0 : Int)) 81 (f2 : Int) (f0 : Int)) (rook4 _ _) HR11.out ?_; intro wm U R
              rw [over_four] at R
              have HR2 := Lib.hid (HR2.out.apart U HDx2.out); have HR11 := Lib.hid R; have HB := Lib.hid (HB.out.trans (U.below HG11.out)); clear U R
              refine hK.out _ _ ?_
              clear hK K
              simp only [Act.put, List.setIfInBounds_toArray, List.set_cons_zero, List.set_cons_succ]
              obtain ⟨pF, HpF⟩ : ∃ p, Hid (rookP (rookP pO 79 (f2 : Int) (f0 : Int)) 81 (f2 : Int) (f0 : Int) = p) := ⟨_, Lib.hid rfl⟩
              rw [HpF.out] at HR11
              go_wp2_with (first | (refine step_load rfl _ rfl b11 rfl pF ?_ ?_; exact HR11.out) | (refine step_store rfl _ _ rfl b2 rfl zeroP pF rfl ?_ ?_; exact HR2.out; intro w2 U R; have HR2 := Lib.hid R; have HB := Lib.hid (HB.out.trans (U.below HG2.out)); clear U R))
              refine bodyPost_ret (v := .agg (posA pF)) (results_row rfl _ _ _ _ rfl HR2.out) rfl ⟨by rw [XP.out, HpF.out], HB.out⟩
          · simp only [List.getElem?_toArray, List.getElem?_cons_zero, List.getElem?_cons_succ, Option.some.injEq] at ho; subst ho
            refine ⟨by kernel_rfl, fun wn hl K hK => ?_⟩
            have HR2 := Lib.hid (HR2.out.later hl); have HR3 := Lib.hid (HR3.out.later hl); have HR9 := Lib.hid (HR9.out.later hl); have Hg4 := Lib.hid (Hg4.out.later hl); have HB := Lib.hid (below_on HB.out hl); clear hl
            refine late_alloc rfl ?_; intro b11 wm N R
            have HDx2 := Lib.hid (show b2 ≠ b11 by have := N.at_; have := HR2.out.lt; omega)
            have HDx4 := Lib.hid (show g4 ≠ b11 by have := N.at_; have := Hg4.out.blk.lt; omega)
            have HG11 := Lib.hid (show w.heap.size ≤ b11 by have := HB.out.size; have := N.at_; omega)
            have hb := N.below
            have HRn := Lib.hid R
            clear N R
            refine hK.out _ _ hb ?_
            have HR2 := Lib.hid (HR2.out.later hb); have HR3 := Lib.hid (HR3.out.later hb); have HR9 := Lib.hid (HR9.out.later hb); have Hg4 := Lib.hid (Hg4.out.later hb); have HB := Lib.hid (below_on HB.out hb); clear hb
            have HR11 := HRn; clear HRn
            clear hK K
            simp only [Act.put, List.setIfInBounds_toArray, List.set_cons_zero, List.set_cons_succ]
            refine late_one 4 (by kernel_rfl) (by kernel_rfl) (fun o ho => ?_)
            simp only [List.getElem?_toArray, List.getElem?_cons_zero, List.getElem?_cons_succ, Option.some.injEq] at ho; subst ho
            refine ⟨by kernel_rfl, fun wn hl K hK => ?_⟩
            have HR2 := Lib.hid (HR2.out.later hl); have HR3 := Lib.hid (HR3.out.later hl); have HR9 := Lib.hid (HR9.out.later hl); have Hg4 := Lib.hid (Hg4.out.later hl); have HR11 := Lib.hid (HR11.out.later hl); have HB := Lib.hid (below_on HB.out hl); clear hl
            refine late_rows _ rfl lo up (by kernel_rfl) ?_; intro bS wm N R
            have hb := N.below
            have HRn := Lib.hid R
            clear N R
            refine hK.out _ _ hb ?_
            have HR2 := Lib.hid (HR2.out.later hb); have HR3 := Lib.hid (HR3.out.later hb); have HR9 := Lib.hid (HR9.out.later hb); have Hg4 := Lib.hid (Hg4.out.later hb); have HR11 := Lib.hid (HR11.out.later hb); have HB := Lib.hid (below_on HB.out hb); clear hb
            have HRS := HRn; clear HRn
            clear hK K
            simp only [Act.put, List.setIfInBounds_toArray, List.set_cons_zero, List.set_cons_succ]
            refine late_one 5 (by kernel_rfl) (by kernel_rfl) (fun o ho => ?_)
            simp only [List.getElem?_toArray, List.getElem?_cons_zero, List.getElem?_cons_succ, Option.some.injEq] at ho; subst ho
            refine ⟨by kernel_rfl, fun wn hl K hK => ?_⟩
            have HR2 := Lib.hid (HR2.out.later hl); have HR3 := Lib.hid (HR3.out.later hl); have HR9 := Lib.hid (HR9.out.later hl); have Hg4 := Lib.hid (Hg4.out.later hl); have HR11 := Lib.hid (HR11.out.later hl); have HRS := Lib.hid (HRS.out.later hl); have HB := Lib.hid (below_on HB.out hl); clear hl
            refine wp_enter _ _ (by go_simp; exact ⟨rfl, rfl⟩) ?_
            refine (ofrows_any 1 (rowsL lo up) bS 8 _ rfl (rowsL_size lo up Slo.out Sup.out) HRS.out).mono ?_; rintro e wm ⟨rfl, hb⟩; refine ⟨_, rfl, ?_⟩
            rw [HpO.out]
            refine hK.out _ _ hb ?_
            have HR2 := Lib.hid (HR2.out.later hb); have HR3 := Lib.hid (HR3.out.later hb); have HR9 := Lib.hid (HR9.out.later hb); have Hg4 := Lib.hid (Hg4.out.later hb); have HR11 := Lib.hid (HR11.out.later hb); have HRS := Lib.hid (HRS.out.later hb); have HB := Lib.hid (below_on HB.out hb); clear hb
            clear hK K
            simp only [Act.put, List.setIfInBounds_toArray, List.set_cons_zero, List.set_cons_succ]
            refine late_last 7 (by kernel_rfl) (by kernel_rfl) (by kernel_rfl) (fun o ho => ?_)
            simp only [List.getElem?_toArray, List.getElem?_cons_zero, List.getElem?_cons_succ, Option.some.injEq] at ho; subst ho
            refine ⟨by kernel_rfl, fun wn hl K hK => ?_⟩
            have HR2 := Lib.hid (HR2.out.later hl); have HR3 := Lib.hid (HR3.out.later hl); have HR9 := Lib.hid (HR9.out.later hl); have Hg4 := Lib.hid (Hg4.out.later hl); have HR11 := Lib.hid (HR11.out.later hl); have HRS := Lib.hid (HRS.out.later hl); have HB := Lib.hid (below_on HB.out hl); clear hl
            refine late_whole _ _ rfl b11 rfl zeroP pO rfl HR11.out ?_; intro wm U R
            have HR2 := Lib.hid (HR2.out.apart U HDx2.out); have Hg4 := Lib.hid (Hg4.out.apart U HDx4.out); have HR11 := Lib.hid R; have HB := Lib.hid (HB.out.trans (U.below HG11.out)); clear U R
            refine hK.out _ _ ?_
            clear hK K
            simp only [Act.put, List.setIfInBounds_toArray, List.set_cons_zero, List.set_cons_succ]
            go_wp2_with fail
            refine late_begin 20 (by kernel_rfl) ?_
            refine late_take 0 (by kernel_rfl) (by kernel_rfl) (by kernel_rfl) (by kernel_rfl) (by kernel_rfl) (fun _ _ d _ _ h => by cases d <;> exact h) (fun o ho => ?_)
            simp only [List.getElem?_toArray, List.getElem?_cons_zero, List.getElem?_cons_succ, Option.some.injEq] at ho; subst ho
            apply Exists.intro
            refine ⟨Or.inl ⟨by kernel_rfl, fun w' hl => Or.inl ?_⟩, ?_⟩
            · (go_simp; try with_reducible rfl)
            simp only [Act.put, List.setIfInBounds_toArray, List.set_cons_zero, List.set_cons_succ]
            refine late_take 1 (by kernel_rfl) (by kernel_rfl) (by kernel_rfl) (by kernel_rfl) (by kernel_rfl) (fun _ _ d _ _ h => by cases d <;> exact h) (fun o ho => ?_)
            simp only [List.getElem?_toArray, List.getElem?_cons_zero, List.getElem?_cons_succ, Option.some.injEq] at ho; subst ho
            apply Exists.intro
            refine ⟨Or.inl ⟨by kernel_rfl, fun w' hl => Or.inl ?_⟩, ?_⟩
            · (go_simp; try with_reducible rfl)
            simp only [Act.put, List.setIfInBounds_toArray, List.set_cons_zero, List.set_cons_succ]
            refine late_take 2 (by kernel_rfl) (by kernel_rfl) (by kernel_rfl) (by kernel_rfl) (by kernel_rfl) (fun _ _ d _ _ h => by cases d <;> exact h) (fun o ho => ?_)
            simp only [List.getElem?_toArray, List.getElem?_cons_zero, List.getElem?_cons_succ, Option.some.injEq] at ho; subst ho
            refine ⟨.int .i64 (f2 : Int), Or.inl ⟨by kernel_rfl, fun w' hl => Or.inl (run_get 3 _ rfl g4 2 rfl Tryd.underlying3 rfl _ (lies_at (Hg4.out.later hl) 2 f2 (by rw [L4n.out]; omega) Hf2.out))⟩, ?_⟩
            simp only [Act.put, List.setIfInBounds_toArray, List.set_cons_zero, List.set_cons_succ]
            refine late_take 3 (by kernel_rfl) (by kernel_rfl) (by kernel_rfl) (by kernel_rfl) (by kernel_rfl) (fun _ _ d _ _ h => by cases d <;> exact h) (fun o ho => ?_)
            simp only [List.getElem?_toArray, List.getElem?_cons_zero, List.getElem?_cons_succ, Option.some.injEq] at ho; subst ho
            apply Exists.intro
            refine ⟨Or.inl ⟨by kernel_rfl, fun w' hl => Or.inl ?_⟩, ?_⟩
            · (go_simp; try with_reducible rfl)
            simp only [Act.put, List.setIfInBounds_toArray, List.set_cons_zero, List.set_cons_succ]
            refine late_take 4 (by kernel_rfl) (by kernel_rfl) (by kernel_rfl) (by kernel_rfl) (by kernel_rfl) (fun _ _ d _ _ h => by cases d <;> exact h) (fun o ho => ?_)
            simp only [List.getElem?_toArray, List.getElem?_cons_zero, List.getElem?_cons_succ, Option.some.injEq] at ho; subst ho
            apply Exists.intro
            refine ⟨Or.inl ⟨by kernel_rfl, fun w' hl => Or.inl ?_⟩, ?_⟩
            · (go_simp; try with_reducible rfl)
            simp only [Act.put, List.setIfInBounds_toArray, List.set_cons_zero, List.set_cons_succ]
            refine late_take 5 (by kernel_rfl) (by kernel_rfl) (by kernel_rfl) (by kernel_rfl) (by kernel_rfl) (fun _ _ d _ _ h => by cases d <;> exact h) (fun o ho => ?_)
            simp only [List.getElem?_toArray, List.getElem?_cons_zero, List.getElem?_cons_succ, Option.some.injEq] at ho; subst ho
            apply Exists.intro
            refine ⟨Or.inl ⟨by kernel_rfl, fun w' hl => Or.inl ?_⟩, ?_⟩
            · (go_simp; try with_reducible rfl)
            simp only [Act.put, List.setIfInBounds_toArray, List.set_cons_zero, List.set_cons_succ]
            refine late_take 6 (by kernel_rfl) (by kernel_rfl) (by kernel_rfl) (by kernel_rfl) (by kernel_rfl) (fun _ _ d _ _ h => by cases d <;> exact h) (fun o ho => ?_)
            simp only [List.getElem?_toArray, List.getElem?_cons_zero, List.getElem?_cons_succ, Option.some.injEq] at ho; subst ho
            refine ⟨.int .i64 (f0 : Int), Or.inl ⟨by kernel_rfl, fun w' hl => Or.inl (run_get 3 _ rfl g4 0 rfl Tryd.underlying3 rfl _ (lies_at (Hg4.out.later hl) 0 f0 (by rw [L4n.out]; omega) Hf0.out))⟩, ?_⟩
            simp only [Act.put, List.setIfInBounds_toArray, List.set_cons_zero, List.set_cons_succ]
            refine late_take 7 (by kernel_rfl) (by kernel_rfl) (by kernel_rfl) (by kernel_rfl) (by kernel_rfl) (fun _ _ d _ _ h => by cases d <;> exact h) (fun o ho => ?_)
            simp only [List.getElem?_toArray, List.getElem?_cons_zero, List.getElem?_cons_succ, Option.some.injEq] at ho; subst ho
            apply Exists.intro
            refine ⟨Or.inl ⟨by kernel_rfl, fun w' hl => Or.inl ?_⟩, ?_⟩
            · (go_simp; try with_reducible rfl)
            simp only [Act.put, List.setIfInBounds_toArray, List.set_cons_zero, List.set_cons_succ]
            refine late_take 8 (by kernel_rfl) (by kernel_rfl) (by kernel_rfl) (by kernel_rfl) (by kernel_rfl) (fun _ _ d _ _ h => by cases d <;> exact h) (fun o ho => ?_)
            simp only [List.getElem?_toArray, List.getElem?_cons_zero, List.getElem?_cons_succ, Option.some.injEq] at ho; subst ho
            refine ⟨.agg #[.int .i8 (f2 : Int), .int .i8 (f0 : Int)], Or.inl ⟨by kernel_rfl, fun w' hl => Or.inl (run_built 35 _ rfl _ (by kernel_rfl))⟩, ?_⟩
            simp only [Act.put, List.setIfInBounds_toArray, List.set_cons_zero, List.set_cons_succ]
            refine late_take 9 (by kernel_rfl) (by kernel_rfl) (by kernel_rfl) (by kernel_rfl) (by kernel_rfl) (fun _ _ d _ _ h => by cases d <;> exact h) (fun o ho => ?_)
            simp only [List.getElem?_toArray, List.getElem?_cons_zero, List.getElem?_cons_succ, Option.some.injEq] at ho; subst ho
            apply Exists.intro
            refine ⟨Or.inl ⟨by kernel_rfl, fun w' hl => Or.inl ?_⟩, ?_⟩
            · (go_simp; try with_reducible rfl)
            simp only [Act.put, List.setIfInBounds_toArray, List.set_cons_zero, List.set_cons_succ]
            refine late_take 10 (by kernel_rfl) (by kernel_rfl) (by kernel_rfl) (by kernel_rfl) (by kernel_rfl) (fun _ _ d _ _ h => by cases d <;> exact h) (fun o ho => ?_)
            simp only [List.getElem?_toArray, List.getElem?_cons_zero, List.getElem?_cons_succ, Option.some.injEq] at ho; subst ho
            apply Exists.intro
            refine ⟨Or.inl ⟨by kernel_rfl, fun w' hl => Or.inl ?_⟩, ?_⟩
            · (go_simp; try with_reducible rfl)
            simp only [Act.put, List.setIfInBounds_toArray, List.set_cons_zero, List.set_cons_succ]
            refine late_take 11 (by kernel_rfl) (by kernel_rfl) (by kernel_rfl) (by kernel_rfl) (by kernel_rfl) (fun _ _ d _ _ h => by cases d <;> exact h) (fun o ho => ?_)
            simp only [List.getElem?_toArray, List.getElem?_cons_zero, List.getElem?_cons_succ, Option.some.injEq] at ho; subst ho
            refine ⟨.int .i64 (f2 : Int), Or.inl ⟨by kernel_rfl, fun w' hl => Or.inl (run_get 3 _ rfl g4 2 rfl Tryd.underlying3 rfl _ (lies_at (Hg4.out.later hl) 2 f2 (by rw [L4n.out]; omega) Hf2.out))⟩, ?_⟩
            simp only [Act.put, List.setIfInBounds_toArray, List.set_cons_zero, List.set_cons_succ]
            refine late_take 12 (by kernel_rfl) (by kernel_rfl) (by kernel_rfl) (by kernel_rfl) (by kernel_rfl) (fun _ _ d _ _ h => by cases d <;> exact h) (fun o ho => ?_)
            simp only [List.getElem?_toArray, List.getElem?_cons_zero, List.getElem?_cons_succ, Option.some.injEq] at ho; subst ho
            apply Exists.intro
            refine ⟨Or.inl ⟨by kernel_rfl, fun w' hl => Or.inl ?_⟩, ?_⟩
            · (go_simp; try with_reducible rfl)
            simp only [Act.put, List.setIfInBounds_toArray, List.set_cons_zero, List.set_cons_succ]
            refine late_take 13 (by kernel_rfl) (by kernel_rfl) (by kernel_rfl) (by kernel_rfl) (by kernel_rfl) (fun _ _ d _ _ h => by cases d <;> exact h) (fun o ho => ?_)
            simp only [List.getElem?_toArray, List.getElem?_cons_zero, List.getElem?_cons_succ, Option.some.injEq] at ho; subst ho
            apply Exists.intro
            refine ⟨Or.inl ⟨by kernel_rfl, fun w' hl => Or.inl ?_⟩, ?_⟩
            · (go_simp; try with_reducible rfl)
            simp only [Act.put, List.setIfInBounds_toArray, List.set_cons_zero, List.set_cons_succ]
            refine late_take 14 (by kernel_rfl) (by kernel_rfl) (by kernel_rfl) (by kernel_rfl) (by kernel_rfl) (fun _ _ d _ _ h => by cases d <;> exact h) (fun o ho => ?_)
            simp only [List.getElem?_toArray, List.getElem?_cons_zero, List.getElem?_cons_succ, Option.some.injEq] at ho; subst ho
            apply Exists.intro
            refine ⟨Or.inl ⟨by kernel_rfl, fun w' hl => Or.inl ?_⟩, ?_⟩
            · (go_simp; try with_reducible rfl)
            simp only [Act.put, List.setIfInBounds_toArray, List.set_cons_zero, List.set_cons_succ]
            refine late_take 15 (by kernel_rfl) (by kernel_rfl) (by kernel_rfl) (by kernel_rfl) (by kernel_rfl) (fun _ _ d _ _ h => by cases d <;> exact h) (fun o ho => ?_)
            simp only [List.getElem?_toArray, List.getElem?_cons_zero, List.getElem?_cons_succ, Option.some.injEq] at ho; subst ho
            refine ⟨.int .i64 (f0 : Int), Or.inl ⟨by kernel_rfl, fun w' hl => Or.inl (run_get 3 _ rfl g4 0 rfl Tryd.underlying3 rfl _ (lies_at (Hg4.out.later hl) 0 f0 (by rw [L4n.out]; omega) Hf0.out))⟩, ?_⟩
            simp only [Act.put, List.setIfInBounds_toArray, List.set_cons_zero, List.set_cons_succ]
            refine late_take 16 (by kernel_rfl) (by kernel_rfl) (by kernel_rfl) (by kernel_rfl) (by kernel_rfl) (fun _ _ d _ _ h => by cases d <;> exact h) (fun o ho => ?_)
            simp only [List.getElem?_toArray, List.getElem?_cons_zero, List.getElem?_cons_succ, Option.some.injEq] at ho; subst ho
            apply Exists.intro
            refine ⟨Or.inl ⟨by kernel_rfl, fun w' hl => Or.inl ?_⟩, ?_⟩
            · (go_simp; try with_reducible rfl)
            simp only [Act.put, List.setIfInBounds_toArray, List.set_cons_zero, List.set_cons_succ]
            refine late_take 17 (by kernel_rfl) (by kernel_rfl) (by kernel_rfl) (by kernel_rfl) (by kernel_rfl) (fun _ _ d _ _ h => by cases d <;> exact h) (fun o ho => ?_)
            simp only [List.getElem?_toArray, List.getElem?_cons_zero, List.getElem?_cons_succ, Option.some.injEq] at ho; subst ho
            refine ⟨.agg #[.int .i8 (f2 : Int), .int .i8 (f0 : Int)], Or.inl ⟨by kernel_rfl, fun w' hl => Or.inl (run_built 35 _ rfl _ (by kernel_rfl))⟩, ?_⟩
            simp only [Act.put, List.setIfInBounds_toArray, List.set_cons_zero, List.set_cons_succ]
            refine late_take 18 (by kernel_rfl) (by kernel_rfl) (by kernel_rfl) (by kernel_rfl) (by kernel_rfl) (fun _ _ d _ _ h => by cases d <;> exact h) (fun o ho => ?_)
            simp only [List.getElem?_toArray, List.getElem?_cons_zero, List.getElem?_cons_succ, Option.some.injEq] at ho; subst ho
            refine ⟨.agg #[.int .i8 (f2 : Int), .int .i8 (f0 : Int), .int .i8 (f2 : Int), .int .i8 (f0 : Int)], Or.inl ⟨by kernel_rfl, fun w' hl => Or.inl (run_built 36 _ rfl _ (by kernel_rfl))⟩, ?_⟩
            simp only [Act.put, List.setIfInBounds_toArray, List.set_cons_zero, List.set_cons_succ]
            refine late_take 19 (by kernel_rfl) (by kernel_rfl) (by kernel_rfl) (by kernel_rfl) (by kernel_rfl) (fun _ _ d _ _ h => by cases d <;> exact h) (fun o ho => ?_)
            simp only [List.getElem?_toArray, List.getElem?_cons_zero, List.getElem?_cons_succ, Option.some.injEq] at ho; subst ho
            apply Exists.intro
            refine ⟨Or.inl ⟨by kernel_rfl, fun w' hl => Or.inl ?_⟩, ?_⟩
            · (go_simp; try with_reducible rfl)
            simp only [Act.put, List.setIfInBounds_toArray, List.set_cons_zero, List.set_cons_succ]
            refine late_last 20 (by kernel_rfl) (by kernel_rfl) (by kernel_rfl) (fun o ho => ?_)
            simp only [List.getElem?_toArray, List.getElem?_cons_zero, List.getElem?_cons_succ, Option.some.injEq] at ho; subst ho
            refine ⟨by kernel_rfl, fun wn hl K hK => ?_⟩
            have HR2 := Lib.hid (HR2.out.later hl); have HR11 := Lib.hid (HR11.out.later hl); have Hg4 := Lib.hid (Hg4.out.later hl); have HB := Lib.hid (below_on HB.out hl); clear hl
            refine late_part _ _ rfl b11 rfl pO (rookP (rookP zeroP 79 (f2 : Int) (f0 : Int)) 81 (f2 : Int) (f0 : Int)) (rook4 _ _) HR11.out ?_; intro wm U R
            rw [over_four] at R
            have HR2 := Lib.hid (HR2.out.apart U HDx2.out); have HR11 := Lib.hid R; have HB := Lib.hid (HB.out.trans (U.below HG11.out)); clear U R
            refine hK.out _ _ ?_
            clear hK K
            simp only [Act.put, List.setIfInBounds_toArray, List.set_cons_zero, List.set_cons_succ]
            obtain ⟨pF, HpF⟩ : ∃ p, Hid (rookP (rookP pO 79 (f2 : Int) (f0 : Int)) 81 (f2 : Int) (f0 : Int) = p) := ⟨_, Lib.hid rfl⟩
            rw [HpF.out] at HR11
            go_wp2_with (first | (refine step_load rfl _ rfl b11 rfl pF ?_ ?_; exact HR11.out) | (refine step_store rfl _ _ rfl b2 rfl zeroP pF rfl ?_ ?_; exact HR2.out; intro w2 U R; have HR2 := Lib.hid R; have HB := Lib.hid (HB.out.trans (U.below HG2.out)); clear U R))
            refine bodyPost_ret (v := .agg (posA pF)) (results_row rfl _ _ _ _ rfl HR2.out) rfl ⟨by rw [XP.out, HpF.out], HB.out⟩
end Go.Proofs.YtkeoadcckbcccaaDoor
