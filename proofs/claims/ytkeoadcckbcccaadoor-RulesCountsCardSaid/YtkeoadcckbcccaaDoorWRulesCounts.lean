/-
  The walk of RulesCounts.
-/
import Derived.Test.YtkeoadcckbcccaaDoorRuCount
import Derived.WalkKit
import Derived.OpenShut
namespace Go.Proofs.YtkeoadcckbcccaaDoor.rulesCounts
open Go.RowKit
set_option linter.unusedVariables false
set_option linter.unusedSimpArgs false
theorem two_i (a b : Int) : (#[Value.int .i64 a, .int .i64 b] : Array Value).all (·.oneCell') = true := by simp [Value.oneCell']
theorem arr_two (f : Nat → Int) (a b : Int) (h0 : f 0 = a) (h1 : f 1 = b) : arrA 2 .i64 f = #[.int .i64 a, .int .i64 b] := by
  subst h0; subst h1; kernel_rfl
set_option maxRecDepth 100000 in
set_option maxHeartbeats 4000000 in
theorem counts_any (n v : Nat) (w : World) (hn : n < 256) (hv : n % 9 = v) (hT : TabVar w) (hK : TabKn w) :
    Calls Tryd.prog 8 #[.int .u8 (n : Int)] w fun e w' => e = .returned (.bool true) ∧ Below w.heap.size w w' := by
  have HT := Lib.hid hT
  have HK := Lib.hid hK
  clear hT hK
  have hv9 : v < 9 := by omega
  obtain ⟨p, Hp⟩ : ∃ p, Hid (startP v = p) := ⟨_, Lib.hid rfl⟩
  have HQ := Lib.hid (show ∀ i, i < 88 → p i = startQ v i by rw [← Hp.out]; exact start_Q v)
  obtain ⟨q0, q65, q78, q83, q84, q85, q86, q87⟩ := cells_Q ⟨v, hv9⟩
  have P0 := Lib.hid ((HQ.out 0 (by omega)).trans q0)
  have P65 := Lib.hid ((HQ.out 65 (by omega)).trans q65)
  have P78 := Lib.hid ((HQ.out 78 (by omega)).trans q78)
  have P83 := Lib.hid ((HQ.out 83 (by omega)).trans q83)
  have P86 := Lib.hid ((HQ.out 86 (by omega)).trans q86)
  have P87 := Lib.hid ((HQ.out 87 (by omega)).trans q87)
  have PC := Lib.hid (part_checks ((HQ.out 84 (by omega)).trans q84) ((HQ.out 85 (by omega)).trans q85))
  have PP := Lib.hid (part_pock (p := p) fun i hi => (HQ.out (66 + i) (by omega)).trans (pock_Q ⟨v, hv9⟩ ⟨i, hi⟩))
  have PB := Lib.hid (show ∀ i, i < 64 → ∃ m : Nat, m ≤ 14 ∧ p (1 + i) = (m : Int) from fun i hi => by
    obtain ⟨h0, h1⟩ := board_Q ⟨v, hv9⟩ ⟨i, hi⟩
    simp only at h0 h1
    rw [← HQ.out (1 + i) (by omega)] at h0 h1
    exact ⟨(p (1 + i)).toNat, by omega, by omega⟩)
  obtain ⟨c0, c1, c2, c3⟩ := counts_Q ⟨v, hv9⟩
  have C0 := Lib.hid ((menF_ext (p := p) 0 64 fun i hi => HQ.out (1 + i) (by omega)).trans c0)
  have C1 := Lib.hid ((menF_ext (p := p) 1 64 fun i hi => HQ.out (1 + i) (by omega)).trans c1)
  have C2 := Lib.hid ((kngF_ext (p := p) 0 64 fun i hi => HQ.out (1 + i) (by omega)).trans c2)
  have C3 := Lib.hid ((kngF_ext (p := p) 1 64 fun i hi => HQ.out (1 + i) (by omega)).trans c3)
  clear q0 q65 q78 q83 q84 q85 q86 q87 c0 c1 c2 c3 HQ
  go_enter Tryd.func8, Tryd.ntmps8
  go_wp2_with fail
  rw [show ((n : Int) % 9) = (v : Int) by omega]
  refine (start_in v _ hv9 HT.out HK.out).mono ?_; rintro e w1 ⟨rfl, hb⟩; have HB := Lib.hid hb; clear hb
  rw [Hp.out]
  go_wp2_with (first
    | (refine step_alloc (op := ⟨some 3, _, _, _, _, _⟩) rfl rfl ?_; intro b3 wn N R; have HG3 := Lib.hid (show w.heap.size ≤ b3 by have := N.at_; have := HB.out.size; omega); have HR3 := Lib.hid R; have HB := Lib.hid (below_on HB.out N.below); clear N R)
    | (refine step_store rfl _ _ rfl b3 rfl zeroP p rfl ?_ ?_; exact HR3.out; intro w2 U R; have HR3 := Lib.hid R; have HB := Lib.hid (HB.out.trans (U.below HG3.out)); clear U R)
    | (refine step_get rfl 5 _ rfl b3 0 rfl Tryd.underlying5 rfl (.int .u8 (v : Int)) (by have h := HR3.out.cell 0 (by omega); rwa [P0.out] at h) ?_)
    | (refine step_get rfl 5 _ rfl b3 78 rfl Tryd.underlying5 rfl (.int .u8 0) (by have h := HR3.out.cell 78 (by omega); rwa [P78.out] at h) ?_)
    | (refine step_get rfl 34 _ rfl b3 83 rfl Tryd.underlying34 rfl (.int .i8 (-1)) (by have h := HR3.out.cell 83 (by omega); rwa [P83.out] at h) ?_)
    | (refine step_get rfl 3 _ rfl b3 86 rfl Tryd.underlying3 rfl (.int .i64 0) (by have h := HR3.out.cell 86 (by omega); rwa [P86.out] at h) ?_)
    | (refine step_get rfl 3 _ rfl b3 87 rfl Tryd.underlying3 rfl (.int .i64 1) (by have h := HR3.out.cell 87 (by omega); rwa [P87.out] at h) ?_)
    | (refine step_get rfl 31 _ rfl b3 65 rfl Tryd.underlying31 rfl (.int .u64 0) (by have h := HR3.out.cell 65 (by omega); rwa [P65.out] at h) ?_)
    | (refine step_range rfl 37 _ rfl b3 84 rfl [.int .u8 0, .int .u8 0] (by rw [← PC.out]; exact HR3.out.range 84 2 (by omega)) _ Tryd.underlying37 rfl size37 ?_)
    | (refine step_range rfl 33 _ rfl b3 66 rfl z12 (by rw [← PP.out]; exact HR3.out.range 66 12 (by omega)) _ Tryd.underlying33 rfl size33 ?_)
    | (refine step_build rfl 37 _ rfl #[.int .u8 0, .int .u8 0] (by kernel_rfl) ?_)
    | (refine step_build rfl 33 _ rfl z12.toArray (by kernel_rfl) ?_)
    | (refine step_neqA rfl 37 _ _ rfl #[.int .u8 0, .int .u8 0] ?_ ?_ guard37 2 (by kernel_rfl) (by decide) (by kernel_rfl) (by kernel_rfl) ?_; rfl; rfl)
    | (refine step_neqA rfl 33 _ _ rfl z12.toArray ?_ ?_ guard33 3 (by kernel_rfl) (by decide) (by kernel_rfl) (by kernel_rfl) ?_; rfl; rfl)
    | (refine arr_alloc (op := ⟨some 5, _, _, _, _, _⟩) rfl 50 rfl 2 .i64 zero50 ?_; intro b5 wn N R; have HG5 := Lib.hid (show w.heap.size ≤ b5 by have := N.at_; have := HB.out.size; omega); have HD35 := Lib.hid (show b3 ≠ b5 by have := N.at_; have := HR3.out.lt; omega); have HR3 := Lib.hid (HR3.out.later N.below); have HR5 := Lib.hid R; have HB := Lib.hid (below_on HB.out N.below); clear N R)
    | (refine arr_alloc rfl 50 rfl 2 .i64 zero50 ?_; intro b6 wn N R; have HG6 := Lib.hid (show w.heap.size ≤ b6 by have := N.at_; have := HB.out.size; omega); have HD36 := Lib.hid (show b3 ≠ b6 by have := N.at_; have := HR3.out.lt; omega); have HD56 := Lib.hid (show b5 ≠ b6 by have := N.at_; have := HR5.out.lt; omega); have HR3 := Lib.hid (HR3.out.later N.below); have HR5 := Lib.hid (HR5.out.later N.below); have HR6 := Lib.hid R; have HB := Lib.hid (below_on HB.out N.below); clear N R))
  go_loopw [7] (fun s wr => ∃ k : Nat, k ≤ 64 ∧ s = .int .i64 (k : Int) ∧ Row wr b3 p ∧ Blk wr b5 50 (arrA 2 .i64 (fun c => menF p c k)) ∧ Blk wr b6 50 (arrA 2 .i64 (fun c => kngF p c k)) ∧ Below w.heap.size w wr) (fun s _ => 64 - (intOf s).toNat)
  case atStart => exact ⟨0, by omega, rfl, HR3.out, HR5.out, HR6.out, HB.out⟩
  case round =>
    clear HB HR3 HR5 HR6
    obtain ⟨k, hk, rfl, h3, h5, h6, hb⟩ := hrel
    have HR3 := Lib.hid h3
    have HR5 := Lib.hid h5
    have HR6 := Lib.hid h6
    have HB := Lib.hid hb
    clear h3 h5 h6 hb
    by_cases hlt : k < 64
    · obtain ⟨m, hm, hx⟩ := PB.out k hlt
      have Hx := Lib.hid hx
      have hc := HR3.out.cell (1 + k) (by omega)
      rw [kAt_board (Nat.zero_le _) hlt, hx] at hc
      clear hx
      cases g0 : ((m : Int) == 0)
      · have H0 := Lib.hid (show m ≠ 0 by simp at g0; omega)
        obtain ⟨f, Hf⟩ : ∃ f, Hid ((fun c => menF p c k) = f) := ⟨_, Lib.hid rfl⟩
        obtain ⟨h, Hh⟩ : ∃ f, Hid ((fun c => kngF p c k) = f) := ⟨_, Lib.hid rfl⟩
        obtain ⟨y, Hy⟩ : ∃ y, Hid (f (m / 8) = y) := ⟨_, Lib.hid rfl⟩
        obtain ⟨z, Hz⟩ : ∃ y, Hid (h (m / 8) = y) := ⟨_, Lib.hid rfl⟩
        have hy := menF_rng p (m / 8) k
        rw [show menF p (m / 8) k = y by rw [← Hy.out, ← Hf.out]] at hy
        have hz := kngF_rng p (m / 8) k
        rw [show kngF p (m / 8) k = z by rw [← Hz.out, ← Hh.out]] at hz
        obtain ⟨hy0, hy1⟩ := hy
        obtain ⟨hz0, hz1⟩ := hz
        have lm : m / 8 < 2 := by omega
        have HM := Lib.hid (show ∀ c, upd f (m / 8) (y + 1) c = menF p c (k + 1) by
          intro c; have := men_step Hx.out H0.out c; rw [← Hy.out, ← Hf.out]; exact this)
        rw [Hf.out] at HR5
        rw [Hh.out] at HR6
        have hcm := HR5.out.at (m / 8) lm
        rw [Hy.out] at hcm
        cases g6 : ((m : Int) % 8 == 6)
        · have HN := Lib.hid (show ∀ c, h c = kngF p c (k + 1) by
            intro c; rw [kng_no Hx.out g6, ← Hh.out])
          go_wp2_with (refine arr_cell rfl 3 _ _ rfl b5 (m / 8) rfl .i64 (y + 1) rfl 50 2 f ?_ lm size3 ?_; exact HR5.out; intro w2 U R; clear hcm hc; have HR3 := Lib.hid (HR3.out.apart U HD35.out); have HR6 := Lib.hid (HR6.out.apart U (Ne.symm HD56.out)); have HR5 := Lib.hid R; have HB := Lib.hid (HB.out.trans (U.below HG5.out)); clear U R)
          go_roundw
          case rel => exact ⟨k + 1, by omega, by go_num, HR3.out, by rw [← arrA_ext fun c _ => HM.out c]; exact HR5.out, by rw [← arrA_ext fun c _ => HN.out c]; exact HR6.out, HB.out⟩
          case measure => simp [intOf]; omega
        · have HN := Lib.hid (show ∀ c, upd h (m / 8) (z + 1) c = kngF p c (k + 1) by
            intro c; have := kng_step Hx.out H0.out g6 c; rw [← Hz.out, ← Hh.out]; exact this)
          have hck := HR6.out.at (m / 8) lm
          rw [Hz.out] at hck
          go_wp2_with (first
            | (refine arr_cell rfl 3 _ _ rfl b5 (m / 8) rfl .i64 (y + 1) rfl 50 2 f ?_ lm size3 ?_; exact HR5.out; intro w2 U R; clear hcm hc hck; have HR3 := Lib.hid (HR3.out.apart U HD35.out); have HR6 := Lib.hid (HR6.out.apart U (Ne.symm HD56.out)); have hck := HR6.out.at (m / 8) lm; rw [Hz.out] at hck; have HR5 := Lib.hid R; have HB := Lib.hid (HB.out.trans (U.below HG5.out)); clear U R)
            | (refine arr_cell rfl 3 _ _ rfl b6 (m / 8) rfl .i64 (z + 1) rfl 50 2 h ?_ lm size3 ?_; exact HR6.out; intro w2 U R; clear hck; have HR3 := Lib.hid (HR3.out.apart U HD36.out); have HR5 := Lib.hid (HR5.out.apart U HD56.out); have HR6 := Lib.hid R; have HB := Lib.hid (HB.out.trans (U.below HG6.out)); clear U R))
          go_roundw
          case rel => exact ⟨k + 1, by omega, by go_num, HR3.out, by rw [← arrA_ext fun c _ => HM.out c]; exact HR5.out, by rw [← arrA_ext fun c _ => HN.out c]; exact HR6.out, HB.out⟩
          case measure => simp [intOf]; omega
      · have H0 := Lib.hid (show p (1 + k) = 0 by rw [Hx.out]; simpa using g0)
        go_wp2_with fail
        clear hc
        go_roundw
        case rel => exact ⟨k + 1, by omega, by go_num, HR3.out, by rw [arrA_ext fun c _ => men_skip H0.out c]; exact HR5.out, by rw [arrA_ext fun c _ => kng_skip H0.out c]; exact HR6.out, HB.out⟩
        case measure => simp [intOf]; omega
    · obtain rfl : k = 64 := by omega
      rw [show ((64 : Nat) : Int) = 64 from rfl]
      by_cases h7 : v = 7
      · subst h7
        rw [arr_two _ 36 16 C0.out C1.out] at HR5
        rw [arr_two _ 0 1 C2.out C3.out] at HR6
        rw [show ((7 : Nat) : Int) = 7 from rfl]
        go_wp2_with (first
          | (refine blk_alloc rfl 50 rfl (arrA 2 .i64 zeroP) (by rw [zero50]; rfl) ?_; intro b9 wn N R; have HG9 := Lib.hid (show w.heap.size ≤ b9 by have := N.at_; have := HB.out.size; omega); have HD59 := Lib.hid (show b5 ≠ b9 by have := N.at_; have := HR5.out.lt; omega); have HD69 := Lib.hid (show b6 ≠ b9 by have := N.at_; have := HR6.out.lt; omega); have HR5 := Lib.hid (HR5.out.later N.below); have HR6 := Lib.hid (HR6.out.later N.below); have HR9 := Lib.hid (show Blk _ b9 50 #[.int .i64 0, .int .i64 0] from R); have HB := Lib.hid (below_on HB.out N.below); clear N R)
          | (refine blk_store (op := ⟨none, .store 50 (.tmp 9) (.tmp 87), _, _, _, _⟩) rfl 50 _ _ rfl b9 rfl #[.int .i64 0, .int .i64 0] #[.int .i64 16, .int .i64 16] rfl ?_ rfl (two_i _ _) size50 ?_; exact HR9.out; intro w2 U R; have HR5 := Lib.hid (HR5.out.apart U HD59.out); have HR6 := Lib.hid (HR6.out.apart U HD69.out); have HR9 := Lib.hid R; have HB := Lib.hid (HB.out.trans (U.below HG9.out)); clear U R)
          | (refine blk_cell rfl 3 _ _ rfl b9 0 rfl .i64 36 rfl 50 #[.int .i64 16, .int .i64 16] ?_ (by decide) size3 ?_; exact HR9.out; intro w2 U R; have HR5 := Lib.hid (HR5.out.apart U HD59.out); have HR6 := Lib.hid (HR6.out.apart U HD69.out); have HR9 := Lib.hid (show Blk _ b9 50 #[.int .i64 36, .int .i64 16] from R); have HB := Lib.hid (HB.out.trans (U.below HG9.out)); clear U R)
          | (refine blk_load rfl 50 _ rfl b5 rfl #[.int .i64 36, .int .i64 16] ?_ _ Tryd.underlying50 rfl size50 ?_; exact HR5.out)
          | (refine blk_load rfl 50 _ rfl b9 rfl #[.int .i64 36, .int .i64 16] ?_ _ Tryd.underlying50 rfl size50 ?_; exact HR9.out)
          | (refine step_eqlA rfl 50 _ _ rfl #[.int .i64 36, .int .i64 16] ?_ ?_ guard50 2 (by kernel_rfl) (by decide) (by kernel_rfl) (by kernel_rfl) ?_; rfl; rfl)
          | (refine step_get rfl 3 _ rfl b6 1 rfl Tryd.underlying3 rfl (.int .i64 1) (by rw [HR6.out.cell]; rfl) ?_)
          | (refine step_get rfl 3 _ rfl b6 0 rfl Tryd.underlying3 rfl (.int .i64 0) (by rw [HR6.out.cell]; rfl) ?_))
        refine (rawake_any _ (HT.out.on HB.out) (HK.out.on HB.out)).mono ?_; rintro e wn ⟨rfl, hb⟩; have HB := Lib.hid (below_on HB.out hb); clear hb
        go_wp2_with fail
        go_ret
        exact ⟨rfl, HB.out⟩
      · by_cases h8 : v = 8
        · subst h8
          rw [arr_two _ 8 8 C0.out C1.out] at HR5
          rw [arr_two _ 1 1 C2.out C3.out] at HR6
          rw [show ((8 : Nat) : Int) = 8 from rfl]
          go_wp2_with (first
            | (refine blk_alloc rfl 50 rfl (arrA 2 .i64 zeroP) (by rw [zero50]; rfl) ?_; intro b9 wn N R; have HG9 := Lib.hid (show w.heap.size ≤ b9 by have := N.at_; have := HB.out.size; omega); have HD59 := Lib.hid (show b5 ≠ b9 by have := N.at_; have := HR5.out.lt; omega); have HD69 := Lib.hid (show b6 ≠ b9 by have := N.at_; have := HR6.out.lt; omega); have HR5 := Lib.hid (HR5.out.later N.below); have HR6 := Lib.hid (HR6.out.later N.below); have HR9 := Lib.hid (show Blk _ b9 50 #[.int .i64 0, .int .i64 0] from R); have HB := Lib.hid (below_on HB.out N.below); clear N R)
            | (refine blk_store (op := ⟨none, .store 50 (.tmp 9) (.tmp 87), _, _, _, _⟩) rfl 50 _ _ rfl b9 rfl #[.int .i64 0, .int .i64 0] #[.int .i64 16, .int .i64 16] rfl ?_ rfl (two_i _ _) size50 ?_; exact HR9.out; intro w2 U R; have HR5 := Lib.hid (HR5.out.apart U HD59.out); have HR6 := Lib.hid (HR6.out.apart U HD69.out); have HR9 := Lib.hid R; have HB := Lib.hid (HB.out.trans (U.below HG9.out)); clear U R)
            | (refine blk_store (op := ⟨none, .store 50 (.tmp 9) (.tmp 93), _, _, _, _⟩) rfl 50 _ _ rfl b9 rfl #[.int .i64 16, .int .i64 16] #[.int .i64 8, .int .i64 8] rfl ?_ rfl (two_i _ _) size50 ?_; exact HR9.out; intro w2 U R; have HR5 := Lib.hid (HR5.out.apart U HD59.out); have HR6 := Lib.hid (HR6.out.apart U HD69.out); have HR9 := Lib.hid R; have HB := Lib.hid (HB.out.trans (U.below HG9.out)); clear U R)
            | (refine blk_load rfl 50 _ rfl b5 rfl #[.int .i64 8, .int .i64 8] ?_ _ Tryd.underlying50 rfl size50 ?_; exact HR5.out)
            | (refine blk_load rfl 50 _ rfl b9 rfl #[.int .i64 8, .int .i64 8] ?_ _ Tryd.underlying50 rfl size50 ?_; exact HR9.out)
            | (refine step_eqlA rfl 50 _ _ rfl #[.int .i64 8, .int .i64 8] ?_ ?_ guard50 2 (by kernel_rfl) (by decide) (by kernel_rfl) (by kernel_rfl) ?_; rfl; rfl)
            | (refine step_get rfl 3 _ rfl b6 1 rfl Tryd.underlying3 rfl (.int .i64 1) (by rw [HR6.out.cell]; rfl) ?_)
            | (refine step_get rfl 3 _ rfl b6 0 rfl Tryd.underlying3 rfl (.int .i64 1) (by rw [HR6.out.cell]; rfl) ?_))
          refine (rawake_any _ (HT.out.on HB.out) (HK.out.on HB.out)).mono ?_; rintro e wn ⟨rfl, hb⟩; have HB := Lib.hid (below_on HB.out hb); clear hb
          go_wp2_with fail
          go_ret
          exact ⟨rfl, HB.out⟩
        · have g7 : ((v : Int) == 7) = false := by simp; omega
          have g72 : ((v : Int) != 7) = true := by simp; omega
          have g8 : ((v : Int) == 8) = false := by simp; omega
          rw [arr_two _ 16 16 (C0.out.trans (by unfold want0; rw [if_neg h7, if_neg h8])) (C1.out.trans (by unfold want1; rw [if_neg h8]))] at HR5
          rw [arr_two _ 1 1 (C2.out.trans (if_neg h7)) C3.out] at HR6
          go_wp2_with (first
            | (refine blk_alloc rfl 50 rfl (arrA 2 .i64 zeroP) (by rw [zero50]; rfl) ?_; intro b9 wn N R; have HG9 := Lib.hid (show w.heap.size ≤ b9 by have := N.at_; have := HB.out.size; omega); have HD59 := Lib.hid (show b5 ≠ b9 by have := N.at_; have := HR5.out.lt; omega); have HD69 := Lib.hid (show b6 ≠ b9 by have := N.at_; have := HR6.out.lt; omega); have HR5 := Lib.hid (HR5.out.later N.below); have HR6 := Lib.hid (HR6.out.later N.below); have HR9 := Lib.hid (show Blk _ b9 50 #[.int .i64 0, .int .i64 0] from R); have HB := Lib.hid (below_on HB.out N.below); clear N R)
            | (refine blk_store (op := ⟨none, .store 50 (.tmp 9) (.tmp 87), _, _, _, _⟩) rfl 50 _ _ rfl b9 rfl #[.int .i64 0, .int .i64 0] #[.int .i64 16, .int .i64 16] rfl ?_ rfl (two_i _ _) size50 ?_; exact HR9.out; intro w2 U R; have HR5 := Lib.hid (HR5.out.apart U HD59.out); have HR6 := Lib.hid (HR6.out.apart U HD69.out); have HR9 := Lib.hid R; have HB := Lib.hid (HB.out.trans (U.below HG9.out)); clear U R)
            | (refine blk_load rfl 50 _ rfl b5 rfl #[.int .i64 16, .int .i64 16] ?_ _ Tryd.underlying50 rfl size50 ?_; exact HR5.out)
            | (refine blk_load rfl 50 _ rfl b9 rfl #[.int .i64 16, .int .i64 16] ?_ _ Tryd.underlying50 rfl size50 ?_; exact HR9.out)
            | (refine step_eqlA rfl 50 _ _ rfl #[.int .i64 16, .int .i64 16] ?_ ?_ guard50 2 (by kernel_rfl) (by decide) (by kernel_rfl) (by kernel_rfl) ?_; rfl; rfl)
            | (refine step_get rfl 3 _ rfl b6 1 rfl Tryd.underlying3 rfl (.int .i64 1) (by rw [HR6.out.cell]; rfl) ?_)
            | (refine step_get rfl 3 _ rfl b6 0 rfl Tryd.underlying3 rfl (.int .i64 1) (by rw [HR6.out.cell]; rfl) ?_))
          refine (rawake_any _ (HT.out.on HB.out) (HK.out.on HB.out)).mono ?_; rintro e wn ⟨rfl, hb⟩; have HB := Lib.hid (below_on HB.out hb); clear hb
          go_wp2_with fail
          go_ret
          exact ⟨rfl, HB.out⟩
theorem walk (a0 : Int) (w0 : (Lit.int .u8 a0).wf = true) (w : World) (hT : TabVar w) (hK : TabKn w) :
    Calls Tryd.prog 8 #[.int .u8 a0] w fun e w' => e = .returned (.bool true) ∧ Below w.heap.size w w' := by
  obtain ⟨n, hn, rfl⟩ := u8_of w0
  exact counts_any n (n % 9) w hn rfl hT hK
end Go.Proofs.YtkeoadcckbcccaaDoor.rulesCounts
