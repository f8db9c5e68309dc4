/-
  The walk of FenPut.
-/
import Derived.Test.YtjbfjohgfbipgaaGreatDoorFnSq
import Derived.Test.YtjbfjohgfbipgaaGreatDoorFnRk
import Derived.Test.YtjbfjohgfbipgaaGreatDoorFnPut
import Derived.Test.YtjbfjohgfbipgaaGreatDoorFnBad
import Derived.Test.YtjbfjohgfbipgaaGreatDoorFpBaseB
import Derived.Test.YtjbfjohgfbipgaaGreatDoorRdBaseA
import Derived.Test.YtjbfjohgfbipgaaGreatDoorShort
import Derived.WalkKit
import Derived.OpenShut
namespace Go.Proofs.YtjbfjohgfbipgaaGreatDoor.fenPut
open Go.RowKit
set_option linter.unusedVariables false
set_option linter.unusedSimpArgs false
set_option maxRecDepth 100000 in
set_option maxHeartbeats 4000000 in
theorem fp_0 (p : Nat → Int) (s x : Int) (w : World) (hrw : ∀ i, 79 ≤ i → i < 83 → (Lit.int .i8 (p i)).wf = true) (hx : 0 ≤ x ∧ x ≤ 255) (hrk : rkB4 p = false) (hM : TabMx w) (hT : TabErr w) (hC : TabCorn w) (hV : TabVar w) (hP : TabPow w) (hK : TabKn w) : Calls Tryz.prog 4 #[.agg (posA p), .int .i64 s, .int .u8 x] w (BoL true w) := by
  have HM := Lib.hid hM
  have HT := Lib.hid hT
  have HC := Lib.hid hC
  have HV := Lib.hid hV
  have HPw := Lib.hid hP
  have HK := Lib.hid hK
  have HRw := Lib.hid hrw
  have HRk := Lib.hid hrk
  have HX := Lib.hid hx
  clear hM hT hC hV hP hK hrw hrk hx
  have HB := Lib.hid (Below.refl w.heap.size w)
  go_enter Tryz.func4, Tryz.ntmps4
  go_wp2_with (first
      | (guard_target = Go.wpList _ _ _ ((⟨some 3, .box _ _, _, _, _, _⟩ : Go.Oper) :: _) _ _; refine step_box rfl _ rfl p rfl ?_; intro b3 w1 N R; have HG3 := Lib.hid (show w.heap.size ≤ b3 by have := HB.out.size; have := N.at_; omega); have HB := Lib.hid (below_on HB.out N.below); have HR3 := Lib.hid R; clear N R)
      | (go_at_call 5; refine (fawake_any _ (HM.out.on HB.out) (HT.out.on HB.out) (HC.out.on HB.out) (HV.out.on HB.out) (HPw.out.on HB.out) (HK.out.on HB.out)).mono ?_; rintro e w2 ⟨rfl, hb⟩; have HR3 := Lib.hid (HR3.out.later hb); have HB := Lib.hid (below_on HB.out hb); clear hb)
      | (guard_target = Go.wpList _ _ _ ((⟨some 12, .load _ _, _, _, _, _⟩ : Go.Oper) :: _) _ _; refine step_read (op := ⟨some 12, .load _ _, _, _, _, _⟩) rfl 28 _ rfl b3 79 4 rfl p HR3.out (by decide) _ Tryz.underlying28 rfl (by kernel_rfl) ?_)
      | (guard_target = Go.wpList _ _ _ ((⟨some 16, .binOp _ _ _ _ _, _, _, _, _⟩ : Go.Oper) :: _) _ _; refine step_rk (op := ⟨some 16, .binOp _ _ _ _ _, _, _, _, _⟩) rfl _ _ rfl p rfl rfl HRw.out _ HRk.out ?_)
      | (go_at_call 11; refine (is_at HPc.out _ HX.out.1 HX.out.2).mono ?_; rintro e w2 ⟨rfl, rfl⟩))
  go_ret
  exact ⟨rfl, HB.out⟩
set_option maxRecDepth 100000 in
set_option maxHeartbeats 4000000 in
theorem fp_1 (p : Nat → Int) (s x : Int) (w : World) (hrw : ∀ i, 79 ≤ i → i < 83 → (Lit.int .i8 (p i)).wf = true) (hx : 0 ≤ x ∧ x ≤ 255) (hrk : rkB4 p = true) (hpc : pcB x = false) (hM : TabMx w) (hT : TabErr w) (hC : TabCorn w) (hV : TabVar w) (hP : TabPow w) (hK : TabKn w) : Calls Tryz.prog 4 #[.agg (posA p), .int .i64 s, .int .u8 x] w (BoL true w) := by
  have HM := Lib.hid hM
  have HT := Lib.hid hT
  have HC := Lib.hid hC
  have HV := Lib.hid hV
  have HPw := Lib.hid hP
  have HK := Lib.hid hK
  have HRw := Lib.hid hrw
  have HRk := Lib.hid hrk
  have HX := Lib.hid hx
  clear hM hT hC hV hP hK hrw hrk hx
  have HPc := Lib.hid hpc
  clear hpc
  have HB := Lib.hid (Below.refl w.heap.size w)
  go_enter Tryz.func4, Tryz.ntmps4
  go_wp2_with (first
      | (guard_target = Go.wpList _ _ _ ((⟨some 3, .box _ _, _, _, _, _⟩ : Go.Oper) :: _) _ _; refine step_box rfl _ rfl p rfl ?_; intro b3 w1 N R; have HG3 := Lib.hid (show w.heap.size ≤ b3 by have := HB.out.size; have := N.at_; omega); have HB := Lib.hid (below_on HB.out N.below); have HR3 := Lib.hid R; clear N R)
      | (go_at_call 5; refine (fawake_any _ (HM.out.on HB.out) (HT.out.on HB.out) (HC.out.on HB.out) (HV.out.on HB.out) (HPw.out.on HB.out) (HK.out.on HB.out)).mono ?_; rintro e w2 ⟨rfl, hb⟩; have HR3 := Lib.hid (HR3.out.later hb); have HB := Lib.hid (below_on HB.out hb); clear hb)
      | (guard_target = Go.wpList _ _ _ ((⟨some 12, .load _ _, _, _, _, _⟩ : Go.Oper) :: _) _ _; refine step_read (op := ⟨some 12, .load _ _, _, _, _, _⟩) rfl 28 _ rfl b3 79 4 rfl p HR3.out (by decide) _ Tryz.underlying28 rfl (by kernel_rfl) ?_)
      | (guard_target = Go.wpList _ _ _ ((⟨some 16, .binOp _ _ _ _ _, _, _, _, _⟩ : Go.Oper) :: _) _ _; refine step_rk (op := ⟨some 16, .binOp _ _ _ _ _, _, _, _, _⟩) rfl _ _ rfl p rfl rfl HRw.out _ HRk.out ?_)
      | (go_at_call 11; refine (is_at HPc.out _ HX.out.1 HX.out.2).mono ?_; rintro e w2 ⟨rfl, rfl⟩))
  go_ret
  exact ⟨rfl, HB.out⟩
set_option maxRecDepth 100000 in
set_option maxHeartbeats 4000000 in
theorem fp_2 (p : Nat → Int) (s x : Int) (w : World) (hrw : ∀ i, 79 ≤ i → i < 83 → (Lit.int .i8 (p i)).wf = true) (hx : 0 ≤ x ∧ x ≤ 255) (hrk : rkB4 p = true) (hpc : pcB x = true) (g1 : decide (s < 0) = true) (hM : TabMx w) (hT : TabErr w) (hC : TabCorn w) (hV : TabVar w) (hP : TabPow w) (hK : TabKn w) : Calls Tryz.prog 4 #[.agg (posA p), .int .i64 s, .int .u8 x] w (BoL true w) := by
  have HM := Lib.hid hM
  have HT := Lib.hid hT
  have HC := Lib.hid hC
  have HV := Lib.hid hV
  have HPw := Lib.hid hP
  have HK := Lib.hid hK
  have HRw := Lib.hid hrw
  have HRk := Lib.hid hrk
  have HX := Lib.hid hx
  clear hM hT hC hV hP hK hrw hrk hx
  have HPc := Lib.hid hpc
  clear hpc
  have HB := Lib.hid (Below.refl w.heap.size w)
  go_enter Tryz.func4, Tryz.ntmps4
  go_wp2_with (first
      | (guard_target = Go.wpList _ _ _ ((⟨some 3, .box _ _, _, _, _, _⟩ : Go.Oper) :: _) _ _; refine step_box rfl _ rfl p rfl ?_; intro b3 w1 N R; have HG3 := Lib.hid (show w.heap.size ≤ b3 by have := HB.out.size; have := N.at_; omega); have HB := Lib.hid (below_on HB.out N.below); have HR3 := Lib.hid R; clear N R)
      | (go_at_call 5; refine (fawake_any _ (HM.out.on HB.out) (HT.out.on HB.out) (HC.out.on HB.out) (HV.out.on HB.out) (HPw.out.on HB.out) (HK.out.on HB.out)).mono ?_; rintro e w2 ⟨rfl, hb⟩; have HR3 := Lib.hid (HR3.out.later hb); have HB := Lib.hid (below_on HB.out hb); clear hb)
      | (guard_target = Go.wpList _ _ _ ((⟨some 12, .load _ _, _, _, _, _⟩ : Go.Oper) :: _) _ _; refine step_read (op := ⟨some 12, .load _ _, _, _, _, _⟩) rfl 28 _ rfl b3 79 4 rfl p HR3.out (by decide) _ Tryz.underlying28 rfl (by kernel_rfl) ?_)
      | (guard_target = Go.wpList _ _ _ ((⟨some 16, .binOp _ _ _ _ _, _, _, _, _⟩ : Go.Oper) :: _) _ _; refine step_rk (op := ⟨some 16, .binOp _ _ _ _ _, _, _, _, _⟩) rfl _ _ rfl p rfl rfl HRw.out _ HRk.out ?_)
      | (go_at_call 11; refine (is_at HPc.out _ HX.out.1 HX.out.2).mono ?_; rintro e w2 ⟨rfl, rfl⟩))
  go_ret
  exact ⟨rfl, HB.out⟩
set_option maxRecDepth 100000 in
set_option maxHeartbeats 4000000 in
theorem fp_3 (p : Nat → Int) (s x : Int) (w : World) (hrw : ∀ i, 79 ≤ i → i < 83 → (Lit.int .i8 (p i)).wf = true) (hx : 0 ≤ x ∧ x ≤ 255) (hrk : rkB4 p = true) (hpc : pcB x = true) (g1 : decide (s < 0) = false) (g2 : decide (63 < s) = true) (hM : TabMx w) (hT : TabErr w) (hC : TabCorn w) (hV : TabVar w) (hP : TabPow w) (hK : TabKn w) : Calls Tryz.prog 4 #[.agg (posA p), .int .i64 s, .int .u8 x] w (BoL true w) := by
  have HM := Lib.hid hM
  have HT := Lib.hid hT
  have HC := Lib.hid hC
  have HV := Lib.hid hV
  have HPw := Lib.hid hP
  have HK := Lib.hid hK
  have HRw := Lib.hid hrw
  have HRk := Lib.hid hrk
  have HX := Lib.hid hx
  clear hM hT hC hV hP hK hrw hrk hx
  have HPc := Lib.hid hpc
  clear hpc
  have HB := Lib.hid (Below.refl w.heap.size w)
  go_enter Tryz.func4, Tryz.ntmps4
  go_wp2_with (first
      | (guard_target = Go.wpList _ _ _ ((⟨some 3, .box _ _, _, _, _, _⟩ : Go.Oper) :: _) _ _; refine step_box rfl _ rfl p rfl ?_; intro b3 w1 N R; have HG3 := Lib.hid (show w.heap.size ≤ b3 by have := HB.out.size; have := N.at_; omega); have HB := Lib.hid (below_on HB.out N.below); have HR3 := Lib.hid R; clear N R)
      | (go_at_call 5; refine (fawake_any _ (HM.out.on HB.out) (HT.out.on HB.out) (HC.out.on HB.out) (HV.out.on HB.out) (HPw.out.on HB.out) (HK.out.on HB.out)).mono ?_; rintro e w2 ⟨rfl, hb⟩; have HR3 := Lib.hid (HR3.out.later hb); have HB := Lib.hid (below_on HB.out hb); clear hb)
      | (guard_target = Go.wpList _ _ _ ((⟨some 12, .load _ _, _, _, _, _⟩ : Go.Oper) :: _) _ _; refine step_read (op := ⟨some 12, .load _ _, _, _, _, _⟩) rfl 28 _ rfl b3 79 4 rfl p HR3.out (by decide) _ Tryz.underlying28 rfl (by kernel_rfl) ?_)
      | (guard_target = Go.wpList _ _ _ ((⟨some 16, .binOp _ _ _ _ _, _, _, _, _⟩ : Go.Oper) :: _) _ _; refine step_rk (op := ⟨some 16, .binOp _ _ _ _ _, _, _, _, _⟩) rfl _ _ rfl p rfl rfl HRw.out _ HRk.out ?_)
      | (go_at_call 11; refine (is_at HPc.out _ HX.out.1 HX.out.2).mono ?_; rintro e w2 ⟨rfl, rfl⟩))
  go_ret
  exact ⟨rfl, HB.out⟩
set_option maxRecDepth 100000 in
set_option maxHeartbeats 4000000 in
theorem fp_4 (p : Nat → Int) (n : Nat) (x : Int) (w : World) (hrw : ∀ i, 79 ≤ i → i < 83 → (Lit.int .i8 (p i)).wf = true) (hx : 0 ≤ x ∧ x ≤ 255) (hrk : rkB4 p = true) (hpc : pcB x = true) (hn : n < 64) (hne : p (1 + n) ≠ 0) (hM : TabMx w) (hT : TabErr w) (hC : TabCorn w) (hV : TabVar w) (hP : TabPow w) (hK : TabKn w) : Calls Tryz.prog 4 #[.agg (posA p), .int .i64 (n : Int), .int .u8 x] w (BoL true w) := by
  have HM := Lib.hid hM
  have HT := Lib.hid hT
  have HC := Lib.hid hC
  have HV := Lib.hid hV
  have HPw := Lib.hid hP
  have HK := Lib.hid hK
  have HRw := Lib.hid hrw
  have HRk := Lib.hid hrk
  have HX := Lib.hid hx
  clear hM hT hC hV hP hK hrw hrk hx
  have HPc := Lib.hid hpc
  obtain ⟨z, hz⟩ : ∃ z, p (1 + n) = z := ⟨_, rfl⟩
  have HZ := Lib.hid hz
  have HN := Lib.hid hn
  have s0 : (0 : Int) ≤ (n : Int) := by omega
  have s63 : (n : Int) ≤ 63 := by omega
  have g1 : decide ((n : Int) < 0) = false := decide_eq_false (by omega)
  have g2 : decide (63 < (n : Int)) = false := decide_eq_false (by omega)
  have g3 : (z != 0) = true := bne_iff_ne.2 (by rw [← hz]; exact hne)
  clear hpc hz hn hne
  have HB := Lib.hid (Below.refl w.heap.size w)
  go_enter Tryz.func4, Tryz.ntmps4
  go_wp2_with (first
      | (guard_target = Go.wpList _ _ _ ((⟨some 3, .box _ _, _, _, _, _⟩ : Go.Oper) :: _) _ _; refine step_box rfl _ rfl p rfl ?_; intro b3 w1 N R; have HG3 := Lib.hid (show w.heap.size ≤ b3 by have := HB.out.size; have := N.at_; omega); have HB := Lib.hid (below_on HB.out N.below); have HR3 := Lib.hid R; clear N R)
      | (go_at_call 5; refine (fawake_any _ (HM.out.on HB.out) (HT.out.on HB.out) (HC.out.on HB.out) (HV.out.on HB.out) (HPw.out.on HB.out) (HK.out.on HB.out)).mono ?_; rintro e w2 ⟨rfl, hb⟩; have HR3 := Lib.hid (HR3.out.later hb); have HB := Lib.hid (below_on HB.out hb); clear hb)
      | (guard_target = Go.wpList _ _ _ ((⟨some 12, .load _ _, _, _, _, _⟩ : Go.Oper) :: _) _ _; refine step_read (op := ⟨some 12, .load _ _, _, _, _, _⟩) rfl 28 _ rfl b3 79 4 rfl p HR3.out (by decide) _ Tryz.underlying28 rfl (by kernel_rfl) ?_)
      | (guard_target = Go.wpList _ _ _ ((⟨some 16, .binOp _ _ _ _ _, _, _, _, _⟩ : Go.Oper) :: _) _ _; refine step_rk (op := ⟨some 16, .binOp _ _ _ _ _, _, _, _, _⟩) rfl _ _ rfl p rfl rfl HRw.out _ HRk.out ?_)
      | (go_at_call 11; refine (is_at HPc.out _ HX.out.1 HX.out.2).mono ?_; rintro e w2 ⟨rfl, rfl⟩)
      | (guard_target = Go.wpList _ _ _ ((⟨some 34, .load _ _, _, _, _, _⟩ : Go.Oper) :: _) _ _; refine step_get (op := ⟨some 34, .load _ _, _, _, _, _⟩) rfl 5 _ rfl b3 (1 + n) rfl Tryz.underlying5 rfl (.int .u8 z) ?_ ?_; exact (HR3.out.cell (1 + n) (by have := HN.out; omega)).trans (by rw [kAt_board (Nat.zero_le _) HN.out, HZ.out])))
  go_ret
  exact ⟨rfl, HB.out⟩
theorem fenL_le (p : Nat → Int) : (fenL p).length ≤ 200 := by
  unfold fenL
  cases hc : (wrB p && decide ((fenT6 p).length ≤ 200))
  · exact Nat.zero_le _
  · rw [Bool.and_eq_true, decide_eq_true_eq] at hc; exact hc.2
theorem printK {p : Nat → Int} {y : ByteArray} (e : bz (fenL p) = y) (w : World) (hp : FitF p) (hT : TabVar w) (hC : TabCorn w) (hPw : TabPow w) : Calls Tryz.prog 6 #[.agg (posA p)] w (StL y w) := e ▸ print_any p w hp hT hC hPw
theorem putK {p q : Nat → Int} {s x : Int} (e : putP p s x = q) (w : World) (h0 : 0 ≤ x) (h1 : x ≤ 255) : Calls Tryz.prog 12 #[.agg (posA p), .int .i64 s, .int .u8 x] w (PosL q w) := e ▸ put_pos p s x w h0 h1
theorem put_ok {n : Nat} {x : Int} (hn : n < 64) (hx : pcB x = true) : putB (n : Int) x = true := by
  unfold putB mayPut
  rw [hx, Bool.or_true, Bool.and_true]
  exact sq_true.2 (by omega)
set_option maxRecDepth 100000 in
set_option maxHeartbeats 4000000 in
theorem fp_5 (p : Nat → Int) (n : Nat) (x : Int) (w : World) (hrw : ∀ i, 79 ≤ i → i < 83 → (Lit.int .i8 (p i)).wf = true) (hx : 0 ≤ x ∧ x ≤ 255) (hrk : rkB4 p = true) (hpc : pcB x = true) (hn : n < 64) (h0 : p (1 + n) = 0) (hF : FitF p) (he : fenL p = []) (hM : TabMx w) (hT : TabErr w) (hC : TabCorn w) (hV : TabVar w) (hP : TabPow w) (hK : TabKn w) : Calls Tryz.prog 4 #[.agg (posA p), .int .i64 (n : Int), .int .u8 x] w (BoL true w) := by
  have HM := Lib.hid hM
  have HT := Lib.hid hT
  have HC := Lib.hid hC
  have HV := Lib.hid hV
  have HPw := Lib.hid hP
  have HK := Lib.hid hK
  have HRw := Lib.hid hrw
  have HRk := Lib.hid hrk
  have HX := Lib.hid hx
  clear hM hT hC hV hP hK hrw hrk hx
  have HPc := Lib.hid hpc
  obtain ⟨z, hz⟩ : ∃ z, p (1 + n) = z := ⟨_, rfl⟩
  have HZ := Lib.hid hz
  have HN := Lib.hid hn
  have s0 : (0 : Int) ≤ (n : Int) := by omega
  have s63 : (n : Int) ≤ 63 := by omega
  have g1 : decide ((n : Int) < 0) = false := decide_eq_false (by omega)
  have g2 : decide (63 < (n : Int)) = false := decide_eq_false (by omega)
  have hz0 : z = 0 := by rw [← hz]; exact h0
  have hon : PutOn p n x := ⟨hn, h0, hpc, rkB4_iff HRk.out⟩
  have hpq : putP p (n : Int) x = upd p (1 + n) x := putP_yes (put_ok hn hpc)
  have hFq := put_fit hon hF HX.out
  obtain ⟨q, hq⟩ : ∃ q, upd p (1 + n) x = q := ⟨_, rfl⟩
  rw [hq] at hpq hFq
  have HQ := Lib.hid hpq
  have HF := Lib.hid hF
  have HFq := Lib.hid hFq
  have g3 : (z != 0) = false := by rw [hz0]; rfl
  obtain ⟨y1, hy1⟩ : ∃ y, bz (fenL p) = y := ⟨_, rfl⟩
  obtain ⟨y2, hy2⟩ : ∃ y, bz (fenL q) = y := ⟨_, rfl⟩
  have HS1 := Lib.hid hy1
  have HS2 := Lib.hid hy2
  have e1 : y1.toList.isEmpty = true := by rw [← hy1, bz_toList, he]; rfl
  clear he
  clear hpc hz hn h0 hF hz0 hon hpq hFq hq hy1 hy2
  have HB := Lib.hid (Below.refl w.heap.size w)
  go_enter Tryz.func4, Tryz.ntmps4
  go_wp2_with (first
      | (guard_target = Go.wpList _ _ _ ((⟨some 3, .box _ _, _, _, _, _⟩ : Go.Oper) :: _) _ _; refine step_box rfl _ rfl p rfl ?_; intro b3 w1 N R; have HG3 := Lib.hid (show w.heap.size ≤ b3 by have := HB.out.size; have := N.at_; omega); have HB := Lib.hid (below_on HB.out N.below); have HR3 := Lib.hid R; clear N R)
      | (go_at_call 5; refine (fawake_any _ (HM.out.on HB.out) (HT.out.on HB.out) (HC.out.on HB.out) (HV.out.on HB.out) (HPw.out.on HB.out) (HK.out.on HB.out)).mono ?_; rintro e w2 ⟨rfl, hb⟩; have HR3 := Lib.hid (HR3.out.later hb); have HB := Lib.hid (below_on HB.out hb); clear hb)
      | (guard_target = Go.wpList _ _ _ ((⟨some 12, .load _ _, _, _, _, _⟩ : Go.Oper) :: _) _ _; refine step_read (op := ⟨some 12, .load _ _, _, _, _, _⟩) rfl 28 _ rfl b3 79 4 rfl p HR3.out (by decide) _ Tryz.underlying28 rfl (by kernel_rfl) ?_)
      | (guard_target = Go.wpList _ _ _ ((⟨some 16, .binOp _ _ _ _ _, _, _, _, _⟩ : Go.Oper) :: _) _ _; refine step_rk (op := ⟨some 16, .binOp _ _ _ _ _, _, _, _, _⟩) rfl _ _ rfl p rfl rfl HRw.out _ HRk.out ?_)
      | (go_at_call 11; refine (is_at HPc.out _ HX.out.1 HX.out.2).mono ?_; rintro e w2 ⟨rfl, rfl⟩)
      | (guard_target = Go.wpList _ _ _ ((⟨some 34, .load _ _, _, _, _, _⟩ : Go.Oper) :: _) _ _; refine step_get (op := ⟨some 34, .load _ _, _, _, _, _⟩) rfl 5 _ rfl b3 (1 + n) rfl Tryz.underlying5 rfl (.int .u8 z) ?_ ?_; exact (HR3.out.cell (1 + n) (by have := HN.out; omega)).trans (by rw [kAt_board (Nat.zero_le _) HN.out, HZ.out])))
  refine late_begin 9 (by kernel_rfl) ?_
  refine ltk 0 (by kernel_rfl) (fun _ _ d _ _ h => by cases d <;> exact h) (fun o ho => ?_)
  simp only [qa, qb, qc, qd] at ho; subst ho
  refine ⟨.agg (posA p), Or.inl ⟨by kernel_rfl, fun w' hl => Or.inl (run_load _ rfl _ rfl p (HR3.out.later hl))⟩, ?_⟩
  simp only [Act.put, pa, pb, pc]
  refine ltk 2 (by kernel_rfl) (fun _ _ d _ _ h => by cases d <;> exact h) (fun o ho => ?_)
  simp only [qa, qb, qc, qd] at ho; subst ho
  refine ⟨.agg (posA p), Or.inl ⟨by kernel_rfl, fun w' hl => Or.inl (run_load _ rfl _ rfl p (HR3.out.later hl))⟩, ?_⟩
  simp only [Act.put, pa, pb, pc]
  refine ltk 3 (by kernel_rfl) (fun _ _ d _ _ h => by cases d <;> exact h) (fun o ho => ?_)
  simp only [qa, qb, qc, qd] at ho; subst ho
  apply Exists.intro
  refine ⟨Or.inl ⟨by kernel_rfl, fun w' hl => Or.inl ?_⟩, ?_⟩
  · (go_simp; try with_reducible rfl)
  simp only [Act.put, pa, pb, pc]
  refine ltk 4 (by kernel_rfl) (fun _ _ d _ _ h => by cases d <;> exact h) (fun o ho => ?_)
  simp only [qa, qb, qc, qd] at ho; subst ho
  apply Exists.intro
  refine ⟨Or.inl ⟨by kernel_rfl, fun w' hl => Or.inl ?_⟩, ?_⟩
  · (go_simp; try with_reducible rfl)
  simp only [Act.put, pa, pb, pc]
  refine late_one 1 (by kernel_rfl) (by kernel_rfl) (fun o ho => ?_)
  simp only [qa, qb, qc, qd] at ho; subst ho
  refine ⟨by kernel_rfl, fun wn hl K hK => ?_⟩
  have HR3 := Lib.hid (HR3.out.later hl); have HB := Lib.hid (below_on HB.out hl); clear hl
  refine wp_enter _ _ (by go_simp; exact ⟨rfl, rfl⟩) ?_
  refine (printK HS1.out _ HF.out (HV.out.on HB.out) (HC.out.on HB.out) (HPw.out.on HB.out)).mono ?_; rintro e wm ⟨rfl, hb⟩; refine ⟨_, rfl, ?_⟩
  refine hK.out _ _ hb ?_
  have HR3 := Lib.hid (HR3.out.later hb); have HB := Lib.hid (below_on HB.out hb); clear hb
  clear hK K
  simp only [Act.put, pa, pb, pc]
  refine late_one 5 (by kernel_rfl) (by kernel_rfl) (fun o ho => ?_)
  simp only [qa, qb, qc, qd] at ho; subst ho
  refine ⟨by kernel_rfl, fun wn hl K hK => ?_⟩
  have HR3 := Lib.hid (HR3.out.later hl); have HB := Lib.hid (below_on HB.out hl); clear hl
  refine wp_enter _ _ (by go_simp; exact ⟨rfl, rfl⟩) ?_
  refine (putK HQ.out _ HX.out.1 HX.out.2).mono ?_; rintro e wm ⟨rfl, hb⟩; refine ⟨_, rfl, ?_⟩
  refine hK.out _ _ hb ?_
  have HR3 := Lib.hid (HR3.out.later hb); have HB := Lib.hid (below_on HB.out hb); clear hb
  clear hK K
  simp only [Act.put, pa, pb, pc]
  refine late_one 6 (by kernel_rfl) (by kernel_rfl) (fun o ho => ?_)
  simp only [qa, qb, qc, qd] at ho; subst ho
  refine ⟨by kernel_rfl, fun wn hl K hK => ?_⟩
  have HR3 := Lib.hid (HR3.out.later hl); have HB := Lib.hid (below_on HB.out hl); clear hl
  refine wp_enter _ _ (by go_simp; exact ⟨rfl, rfl⟩) ?_
  refine (printK HS2.out _ HFq.out (HV.out.on HB.out) (HC.out.on HB.out) (HPw.out.on HB.out)).mono ?_; rintro e wm ⟨rfl, hb⟩; refine ⟨_, rfl, ?_⟩
  refine hK.out _ _ hb ?_
  have HR3 := Lib.hid (HR3.out.later hb); have HB := Lib.hid (below_on HB.out hb); clear hb
  clear hK K
  simp only [Act.put, pa, pb, pc]
  refine ltk 7 (by kernel_rfl) (fun _ _ d _ _ h => by cases d <;> exact h) (fun o ho => ?_)
  simp only [qa, qb, qc, qd] at ho; subst ho
  apply Exists.intro
  refine ⟨Or.inl ⟨by kernel_rfl, fun w' hl => Or.inl ?_⟩, ?_⟩
  · (go_simp; try with_reducible rfl)
  simp only [Act.put, pa, pb, pc]
  refine ltk 8 (by kernel_rfl) (fun _ _ d _ _ h => by cases d <;> exact h) (fun o ho => ?_)
  simp only [qa, qb, qc, qd] at ho; subst ho
  apply Exists.intro
  refine ⟨Or.inl ⟨by kernel_rfl, fun w' hl => Or.inl ?_⟩, ?_⟩
  · (go_simp; try with_reducible rfl)
  simp only [Act.put, pa, pb, pc]
  refine late_end (by kernel_rfl) (fun wn hl => ?_)
  have HR3 := Lib.hid (HR3.out.later hl); have HB := Lib.hid (below_on HB.out hl); clear hl
  go_wp2_with fail
  go_ret
  exact ⟨rfl, HB.out⟩
set_option maxRecDepth 100000 in
set_option maxHeartbeats 4000000 in
theorem fp_6 (p : Nat → Int) (n : Nat) (x : Int) (w : World) (hrw : ∀ i, 79 ≤ i → i < 83 → (Lit.int .i8 (p i)).wf = true) (hx : 0 ≤ x ∧ x ≤ 255) (hrk : rkB4 p = true) (hpc : pcB x = true) (hn : n < 64) (h0 : p (1 + n) = 0) (hF : FitF p) (he : fenL p ≠ []) (he2 : fenL (upd p (1 + n) x) = []) (hM : TabMx w) (hT : TabErr w) (hC : TabCorn w) (hV : TabVar w) (hP : TabPow w) (hK : TabKn w) : Calls Tryz.prog 4 #[.agg (posA p), .int .i64 (n : Int), .int .u8 x] w (BoL true w) := by
  have HM := Lib.hid hM
  have HT := Lib.hid hT
  have HC := Lib.hid hC
  have HV := Lib.hid hV
  have HPw := Lib.hid hP
  have HK := Lib.hid hK
  have HRw := Lib.hid hrw
  have HRk := Lib.hid hrk
  have HX := Lib.hid hx
  clear hM hT hC hV hP hK hrw hrk hx
  have HPc := Lib.hid hpc
  obtain ⟨z, hz⟩ : ∃ z, p (1 + n) = z := ⟨_, rfl⟩
  have HZ := Lib.hid hz
  have HN := Lib.hid hn
  have s0 : (0 : Int) ≤ (n : Int) := by omega
  have s63 : (n : Int) ≤ 63 := by omega
  have g1 : decide ((n : Int) < 0) = false := decide_eq_false (by omega)
  have g2 : decide (63 < (n : Int)) = false := decide_eq_false (by omega)
  have hz0 : z = 0 := by rw [← hz]; exact h0
  have hon : PutOn p n x := ⟨hn, h0, hpc, rkB4_iff HRk.out⟩
  have hpq : putP p (n : Int) x = upd p (1 + n) x := putP_yes (put_ok hn hpc)
  have hFq := put_fit hon hF HX.out
  obtain ⟨q, hq⟩ : ∃ q, upd p (1 + n) x = q := ⟨_, rfl⟩
  rw [hq] at hpq hFq
  have HQ := Lib.hid hpq
  have HF := Lib.hid hF
  have HFq := Lib.hid hFq
  have g3 : (z != 0) = false := by rw [hz0]; rfl
  obtain ⟨y1, hy1⟩ : ∃ y, bz (fenL p) = y := ⟨_, rfl⟩
  obtain ⟨y2, hy2⟩ : ∃ y, bz (fenL q) = y := ⟨_, rfl⟩
  have HS1 := Lib.hid hy1
  have HS2 := Lib.hid hy2
  have e1 : y1.toList.isEmpty = false := by rw [← hy1, bz_toList]; exact List.isEmpty_eq_false_iff.2 he
  have e2 : y2.toList.isEmpty = true := by rw [← hy2, bz_toList, ← hq, he2]; rfl
  have gl : decide ((196 : Int) < (y1.size : Int)) = true := decide_eq_true (by have := put_long hon he he2; rw [← hy1, bz_size]; omega)
  clear he he2
  clear hpc hz hn h0 hF hz0 hon hpq hFq hq hy1 hy2
  have HB := Lib.hid (Below.refl w.heap.size w)
  go_enter Tryz.func4, Tryz.ntmps4
  go_wp2_with (first
      | (guard_target = Go.wpList _ _ _ ((⟨some 3, .box _ _, _, _, _, _⟩ : Go.Oper) :: _) _ _; refine step_box rfl _ rfl p rfl ?_; intro b3 w1 N R; have HG3 := Lib.hid (show w.heap.size ≤ b3 by have := HB.out.size; have := N.at_; omega); have HB := Lib.hid (below_on HB.out N.below); have HR3 := Lib.hid R; clear N R)
      | (go_at_call 5; refine (fawake_any _ (HM.out.on HB.out) (HT.out.on HB.out) (HC.out.on HB.out) (HV.out.on HB.out) (HPw.out.on HB.out) (HK.out.on HB.out)).mono ?_; rintro e w2 ⟨rfl, hb⟩; have HR3 := Lib.hid (HR3.out.later hb); have HB := Lib.hid (below_on HB.out hb); clear hb)
      | (guard_target = Go.wpList _ _ _ ((⟨some 12, .load _ _, _, _, _, _⟩ : Go.Oper) :: _) _ _; refine step_read (op := ⟨some 12, .load _ _, _, _, _, _⟩) rfl 28 _ rfl b3 79 4 rfl p HR3.out (by decide) _ Tryz.underlying28 rfl (by kernel_rfl) ?_)
      | (guard_target = Go.wpList _ _ _ ((⟨some 16, .binOp _ _ _ _ _, _, _, _, _⟩ : Go.Oper) :: _) _ _; refine step_rk (op := ⟨some 16, .binOp _ _ _ _ _, _, _, _, _⟩) rfl _ _ rfl p rfl rfl HRw.out _ HRk.out ?_)
      | (go_at_call 11; refine (is_at HPc.out _ HX.out.1 HX.out.2).mono ?_; rintro e w2 ⟨rfl, rfl⟩)
      | (guard_target = Go.wpList _ _ _ ((⟨some 34, .load _ _, _, _, _, _⟩ : Go.Oper) :: _) _ _; refine step_get (op := ⟨some 34, .load _ _, _, _, _, _⟩) rfl 5 _ rfl b3 (1 + n) rfl Tryz.underlying5 rfl (.int .u8 z) ?_ ?_; exact (HR3.out.cell (1 + n) (by have := HN.out; omega)).trans (by rw [kAt_board (Nat.zero_le _) HN.out, HZ.out])))
  refine late_begin 9 (by kernel_rfl) ?_
  refine ltk 0 (by kernel_rfl) (fun _ _ d _ _ h => by cases d <;> exact h) (fun o ho => ?_)
  simp only [qa, qb, qc, qd] at ho; subst ho
  refine ⟨.agg (posA p), Or.inl ⟨by kernel_rfl, fun w' hl => Or.inl (run_load _ rfl _ rfl p (HR3.out.later hl))⟩, ?_⟩
  simp only [Act.put, pa, pb, pc]
  refine ltk 2 (by kernel_rfl) (fun _ _ d _ _ h => by cases d <;> exact h) (fun o ho => ?_)
  simp only [qa, qb, qc, qd] at ho; subst ho
  refine ⟨.agg (posA p), Or.inl ⟨by kernel_rfl, fun w' hl => Or.inl (run_load _ rfl _ rfl p (HR3.out.later hl))⟩, ?_⟩
  simp only [Act.put, pa, pb, pc]
  refine ltk 3 (by kernel_rfl) (fun _ _ d _ _ h => by cases d <;> exact h) (fun o ho => ?_)
  simp only [qa, qb, qc, qd] at ho; subst ho
  apply Exists.intro
  refine ⟨Or.inl ⟨by kernel_rfl, fun w' hl => Or.inl ?_⟩, ?_⟩
  · (go_simp; try with_reducible rfl)
  simp only [Act.put, pa, pb, pc]
  refine ltk 4 (by kernel_rfl) (fun _ _ d _ _ h => by cases d <;> exact h) (fun o ho => ?_)
  simp only [qa, qb, qc, qd] at ho; subst ho
  apply Exists.intro
  refine ⟨Or.inl ⟨by kernel_rfl, fun w' hl => Or.inl ?_⟩, ?_⟩
  · (go_simp; try with_reducible rfl)
  simp only [Act.put, pa, pb, pc]
  refine late_one 1 (by kernel_rfl) (by kernel_rfl) (fun o ho => ?_)
  simp only [qa, qb, qc, qd] at ho; subst ho
  refine ⟨by kernel_rfl, fun wn hl K hK => ?_⟩
  have HR3 := Lib.hid (HR3.out.later hl); have HB := Lib.hid (below_on HB.out hl); clear hl
  refine wp_enter _ _ (by go_simp; exact ⟨rfl, rfl⟩) ?_
  refine (printK HS1.out _ HF.out (HV.out.on HB.out) (HC.out.on HB.out) (HPw.out.on HB.out)).mono ?_; rintro e wm ⟨rfl, hb⟩; refine ⟨_, rfl, ?_⟩
  refine hK.out _ _ hb ?_
  have HR3 := Lib.hid (HR3.out.later hb); have HB := Lib.hid (below_on HB.out hb); clear hb
  clear hK K
  simp only [Act.put, pa, pb, pc]
  refine late_one 5 (by kernel_rfl) (by kernel_rfl) (fun o ho => ?_)
  simp only [qa, qb, qc, qd] at ho; subst ho
  refine ⟨by kernel_rfl, fun wn hl K hK => ?_⟩
  have HR3 := Lib.hid (HR3.out.later hl); have HB := Lib.hid (below_on HB.out hl); clear hl
  refine wp_enter _ _ (by go_simp; exact ⟨rfl, rfl⟩) ?_
  refine (putK HQ.out _ HX.out.1 HX.out.2).mono ?_; rintro e wm ⟨rfl, hb⟩; refine ⟨_, rfl, ?_⟩
  refine hK.out _ _ hb ?_
  have HR3 := Lib.hid (HR3.out.later hb); have HB := Lib.hid (below_on HB.out hb); clear hb
  clear hK K
  simp only [Act.put, pa, pb, pc]
  refine late_one 6 (by kernel_rfl) (by kernel_rfl) (fun o ho => ?_)
  simp only [qa, qb, qc, qd] at ho; subst ho
  refine ⟨by kernel_rfl, fun wn hl K hK => ?_⟩
  have HR3 := Lib.hid (HR3.out.later hl); have HB := Lib.hid (below_on HB.out hl); clear hl
  refine wp_enter _ _ (by go_simp; exact ⟨rfl, rfl⟩) ?_
  refine (printK HS2.out _ HFq.out (HV.out.on HB.out) (HC.out.on HB.out) (HPw.out.on HB.out)).mono ?_; rintro e wm ⟨rfl, hb⟩; refine ⟨_, rfl, ?_⟩
  refine hK.out _ _ hb ?_
  have HR3 := Lib.hid (HR3.out.later hb); have HB := Lib.hid (below_on HB.out hb); clear hb
  clear hK K
  simp only [Act.put, pa, pb, pc]
  refine ltk 7 (by kernel_rfl) (fun _ _ d _ _ h => by cases d <;> exact h) (fun o ho => ?_)
  simp only [qa, qb, qc, qd] at ho; subst ho
  apply Exists.intro
  refine ⟨Or.inl ⟨by kernel_rfl, fun w' hl => Or.inl ?_⟩, ?_⟩
  · (go_simp; try with_reducible rfl)
  simp only [Act.put, pa, pb, pc]
  refine ltk 8 (by kernel_rfl) (fun _ _ d _ _ h => by cases d <;> exact h) (fun o ho => ?_)
  simp only [qa, qb, qc, qd] at ho; subst ho
  apply Exists.intro
  refine ⟨Or.inl ⟨by kernel_rfl, fun w' hl => Or.inl ?_⟩, ?_⟩
  · (go_simp; try with_reducible rfl)
  simp only [Act.put, pa, pb, pc]
  refine late_end (by kernel_rfl) (fun wn hl => ?_)
  have HR3 := Lib.hid (HR3.out.later hl); have HB := Lib.hid (below_on HB.out hl); clear hl
  go_wp2_with fail
  go_ret
  exact ⟨rfl, HB.out⟩
theorem spaceK {y : ByteArray} {k : Int} (h : ∃ l : List UInt8, y = bz l ∧ l.length ≤ 1000000 ∧ ((spF l : Nat) : Int) = k) (w : World) : Calls Tryz.prog 8 #[.string y] w (IntL k w) := by
  obtain ⟨l, rfl, hl, rfl⟩ := h
  exact space_any l w hl
set_option maxRecDepth 100000 in
set_option maxHeartbeats 4000000 in
theorem fp_7 (p : Nat → Int) (n : Nat) (x : Int) (w : World) (hrw : ∀ i, 79 ≤ i → i < 83 → (Lit.int .i8 (p i)).wf = true) (hx : 0 ≤ x ∧ x ≤ 255) (hrk : rkB4 p = true) (hpc : pcB x = true) (hn : n < 64) (h0 : p (1 + n) = 0) (hF : FitF p) (hfar : ∀ i, 88 ≤ i → p i = 0) (he : fenL p ≠ []) (he2 : fenL (upd p (1 + n) x) ≠ []) (hM : TabMx w) (hT : TabErr w) (hC : TabCorn w) (hV : TabVar w) (hP : TabPow w) (hK : TabKn w) : Calls Tryz.prog 4 #[.agg (posA p), .int .i64 (n : Int), .int .u8 x] w (BoL true w) := by
  have HM := Lib.hid hM
  have HT := Lib.hid hT
  have HC := Lib.hid hC
  have HV := Lib.hid hV
  have HPw := Lib.hid hP
  have HK := Lib.hid hK
  have HRw := Lib.hid hrw
  have HRk := Lib.hid hrk
  have HX := Lib.hid hx
  clear hM hT hC hV hP hK hrw hrk hx
  have HPc := Lib.hid hpc
  obtain ⟨z, hz⟩ : ∃ z, p (1 + n) = z := ⟨_, rfl⟩
  have HZ := Lib.hid hz
  have HN := Lib.hid hn
  have s0 : (0 : Int) ≤ (n : Int) := by omega
  have s63 : (n : Int) ≤ 63 := by omega
  have g1 : decide ((n : Int) < 0) = false := decide_eq_false (by omega)
  have g2 : decide (63 < (n : Int)) = false := decide_eq_false (by omega)
  have hz0 : z = 0 := by rw [← hz]; exact h0
  have hon : PutOn p n x := ⟨hn, h0, hpc, rkB4_iff HRk.out⟩
  have hpq : putP p (n : Int) x = upd p (1 + n) x := putP_yes (put_ok hn hpc)
  have hFq := put_fit hon hF HX.out
  obtain ⟨q, hq⟩ : ∃ q, upd p (1 + n) x = q := ⟨_, rfl⟩
  rw [hq] at hpq hFq
  have HQ := Lib.hid hpq
  have HF := Lib.hid hF
  have HFq := Lib.hid hFq
  have g3 : (z != 0) = false := by rw [hz0]; rfl
  obtain ⟨y1, hy1⟩ : ∃ y, bz (fenL p) = y := ⟨_, rfl⟩
  obtain ⟨y2, hy2⟩ : ∃ y, bz (fenL q) = y := ⟨_, rfl⟩
  have HS1 := Lib.hid hy1
  have HS2 := Lib.hid hy2
  have e1 : y1.toList.isEmpty = false := by rw [← hy1, bz_toList]; exact List.isEmpty_eq_false_iff.2 he
  have e2 : y2.toList.isEmpty = false := by rw [← hy2, bz_toList, ← hq]; exact List.isEmpty_eq_false_iff.2 he2
  obtain ⟨A', B', T', ea, eb, na, nb, hab⟩ := put_both hon hF hfar (by rw [hq]; exact hFq) he he2
  rw [hq] at eb
  have l1 := fenL_le p
  have l2 := fenL_le q
  obtain ⟨ha1, ha2⟩ := sp_cut (T := T') na
  obtain ⟨hb1, hb2⟩ := sp_cut (T := T') nb
  rw [← ea] at ha1 ha2
  rw [← eb] at hb1 hb2
  obtain ⟨ka, hka⟩ : ∃ k, spF (fenL p) = k := ⟨_, rfl⟩
  obtain ⟨kb, hkb⟩ : ∃ k, spF (fenL q) = k := ⟨_, rfl⟩
  have hka2 : ka ≤ (fenL p).length := by rw [← hka]; exact spF_le _
  have hkb2 : kb ≤ (fenL q).length := by rw [← hkb]; exact spF_le _
  have HKa := Lib.hid (show ∃ l : List UInt8, y1 = bz l ∧ l.length ≤ 1000000 ∧ ((spF l : Nat) : Int) = (ka : Int) from ⟨fenL p, hy1.symm, by omega, by rw [hka]⟩)
  have HKb := Lib.hid (show ∃ l : List UInt8, y2 = bz l ∧ l.length ≤ 1000000 ∧ ((spF l : Nat) : Int) = (kb : Int) from ⟨fenL q, hy2.symm, by omega, by rw [hkb]⟩)
  rw [hka] at ha1 ha2
  rw [hkb] at hb1 hb2
  obtain ⟨t, ht⟩ : ∃ t, bz (32 :: T') = t := ⟨_, rfl⟩
  obtain ⟨u1, hu1⟩ : ∃ u, bz A' = u := ⟨_, rfl⟩
  obtain ⟨u2, hu2⟩ : ∃ u, bz B' = u := ⟨_, rfl⟩
  have HUn := Lib.hid (show ¬ u1.toList = u2.toList by rw [← hu1, ← hu2, bz_toList, bz_toList]; exact hab)
  have HTa := Lib.hid (fun (o : Oper) (a : Act) (w : World) (x y : Operand) (ho : o.op = .slice 9 x (some y) none none) (hx : a.eval x = .string y1) (hy : a.eval y = .int .i64 (ka : Int)) => show (execOp a.eval o).run Tryz.prog w = .ok (.value (.string t)) w by
    have := run_tail (w := w) x y ho (fenL p) ka (by rw [hy1]; exact hx) hy hka2
    rwa [ha2, ht] at this)
  have HTb := Lib.hid (fun (o : Oper) (a : Act) (w : World) (x y : Operand) (ho : o.op = .slice 9 x (some y) none none) (hx : a.eval x = .string y2) (hy : a.eval y = .int .i64 (kb : Int)) => show (execOp a.eval o).run Tryz.prog w = .ok (.value (.string t)) w by
    have := run_tail (w := w) x y ho (fenL q) kb (by rw [hy2]; exact hx) hy hkb2
    rwa [hb2, ht] at this)
  have HHa := Lib.hid (fun (o : Oper) (a : Act) (w : World) (x y : Operand) (ho : o.op = .slice 9 x none (some y) none) (hx : a.eval x = .string y1) (hy : a.eval y = .int .i64 (ka : Int)) => show (execOp a.eval o).run Tryz.prog w = .ok (.value (.string u1)) w by
    have := run_head (w := w) x y ho (fenL p) ka (by rw [hy1]; exact hx) hy hka2
    rwa [ha1, hu1] at this)
  have HHb := Lib.hid (fun (o : Oper) (a : Act) (w : World) (x y : Operand) (ho : o.op = .slice 9 x none (some y) none) (hx : a.eval x = .string y2) (hy : a.eval y = .int .i64 (kb : Int)) => show (execOp a.eval o).run Tryz.prog w = .ok (.value (.string u2)) w by
    have := run_head (w := w) x y ho (fenL q) kb (by rw [hy2]; exact hx) hy hkb2
    rwa [hb1, hu2] at this)
  clear he he2 ea eb na nb hab l1 l2 ha1 ha2 hb1 hb2 hka hkb hka2 hkb2 ht hu1 hu2 hfar
  clear hpc hz hn h0 hF hz0 hon hpq hFq hq hy1 hy2
  have HB := Lib.hid (Below.refl w.heap.size w)
  go_enter Tryz.func4, Tryz.ntmps4
  go_wp2_with (first
      | (guard_target = Go.wpList _ _ _ ((⟨some 3, .box _ _, _, _, _, _⟩ : Go.Oper) :: _) _ _; refine step_box rfl _ rfl p rfl ?_; intro b3 w1 N R; have HG3 := Lib.hid (show w.heap.size ≤ b3 by have := HB.out.size; have := N.at_; omega); have HB := Lib.hid (below_on HB.out N.below); have HR3 := Lib.hid R; clear N R)
      | (go_at_call 5; refine (fawake_any _ (HM.out.on HB.out) (HT.out.on HB.out) (HC.out.on HB.out) (HV.out.on HB.out) (HPw.out.on HB.out) (HK.out.on HB.out)).mono ?_; rintro e w2 ⟨rfl, hb⟩; have HR3 := Lib.hid (HR3.out.later hb); have HB := Lib.hid (below_on HB.out hb); clear hb)
      | (guard_target = Go.wpList _ _ _ ((⟨some 12, .load _ _, _, _, _, _⟩ : Go.Oper) :: _) _ _; refine step_read (op := ⟨some 12, .load _ _, _, _, _, _⟩) rfl 28 _ rfl b3 79 4 rfl p HR3.out (by decide) _ Tryz.underlying28 rfl (by kernel_rfl) ?_)
      | (guard_target = Go.wpList _ _ _ ((⟨some 16, .binOp _ _ _ _ _, _, _, _, _⟩ : Go.Oper) :: _) _ _; refine step_rk (op := ⟨some 16, .binOp _ _ _ _ _, _, _, _, _⟩) rfl _ _ rfl p rfl rfl HRw.out _ HRk.out ?_)
      | (go_at_call 11; refine (is_at HPc.out _ HX.out.1 HX.out.2).mono ?_; rintro e w2 ⟨rfl, rfl⟩)
      | (guard_target = Go.wpList _ _ _ ((⟨some 34, .load _ _, _, _, _, _⟩ : Go.Oper) :: _) _ _; refine step_get (op := ⟨some 34, .load _ _, _, _, _, _⟩) rfl 5 _ rfl b3 (1 + n) rfl Tryz.underlying5 rfl (.int .u8 z) ?_ ?_; exact (HR3.out.cell (1 + n) (by have := HN.out; omega)).trans (by rw [kAt_board (Nat.zero_le _) HN.out, HZ.out])))
  refine late_begin 9 (by kernel_rfl) ?_
  refine ltk 0 (by kernel_rfl) (fun _ _ d _ _ h => by cases d <;> exact h) (fun o ho => ?_)
  simp only [qa, qb, qc, qd] at ho; subst ho
  refine ⟨.agg (posA p), Or.inl ⟨by kernel_rfl, fun w' hl => Or.inl (run_load _ rfl _ rfl p (HR3.out.later hl))⟩, ?_⟩
  simp only [Act.put, pa, pb, pc]
  refine ltk 2 (by kernel_rfl) (fun _ _ d _ _ h => by cases d <;> exact h) (fun o ho => ?_)
  simp only [qa, qb, qc, qd] at ho; subst ho
  refine ⟨.agg (posA p), Or.inl ⟨by kernel_rfl, fun w' hl => Or.inl (run_load _ rfl _ rfl p (HR3.out.later hl))⟩, ?_⟩
  simp only [Act.put, pa, pb, pc]
  refine ltk 3 (by kernel_rfl) (fun _ _ d _ _ h => by cases d <;> exact h) (fun o ho => ?_)
  simp only [qa, qb, qc, qd] at ho; subst ho
  apply Exists.intro
  refine ⟨Or.inl ⟨by kernel_rfl, fun w' hl => Or.inl ?_⟩, ?_⟩
  · (go_simp; try with_reducible rfl)
  simp only [Act.put, pa, pb, pc]
  refine ltk 4 (by kernel_rfl) (fun _ _ d _ _ h => by cases d <;> exact h) (fun o ho => ?_)
  simp only [qa, qb, qc, qd] at ho; subst ho
  apply Exists.intro
  refine ⟨Or.inl ⟨by kernel_rfl, fun w' hl => Or.inl ?_⟩, ?_⟩
  · (go_simp; try with_reducible rfl)
  simp only [Act.put, pa, pb, pc]
  refine late_one 1 (by kernel_rfl) (by kernel_rfl) (fun o ho => ?_)
  simp only [qa, qb, qc, qd] at ho; subst ho
  refine ⟨by kernel_rfl, fun wn hl K hK => ?_⟩
  have HR3 := Lib.hid (HR3.out.later hl); have HB := Lib.hid (below_on HB.out hl); clear hl
  refine wp_enter _ _ (by go_simp; exact ⟨rfl, rfl⟩) ?_
  refine (printK HS1.out _ HF.out (HV.out.on HB.out) (HC.out.on HB.out) (HPw.out.on HB.out)).mono ?_; rintro e wm ⟨rfl, hb⟩; refine ⟨_, rfl, ?_⟩
  refine hK.out _ _ hb ?_
  have HR3 := Lib.hid (HR3.out.later hb); have HB := Lib.hid (below_on HB.out hb); clear hb
  clear hK K
  simp only [Act.put, pa, pb, pc]
  refine late_one 5 (by kernel_rfl) (by kernel_rfl) (fun o ho => ?_)
  simp only [qa, qb, qc, qd] at ho; subst ho
  refine ⟨by kernel_rfl, fun wn hl K hK => ?_⟩
  have HR3 := Lib.hid (HR3.out.later hl); have HB := Lib.hid (below_on HB.out hl); clear hl
  refine wp_enter _ _ (by go_simp; exact ⟨rfl, rfl⟩) ?_
  refine (putK HQ.out _ HX.out.1 HX.out.2).mono ?_; rintro e wm ⟨rfl, hb⟩; refine ⟨_, rfl, ?_⟩
  refine hK.out _ _ hb ?_
  have HR3 := Lib.hid (HR3.out.later hb); have HB := Lib.hid (below_on HB.out hb); clear hb
  clear hK K
  simp only [Act.put, pa, pb, pc]
  refine late_one 6 (by kernel_rfl) (by kernel_rfl) (fun o ho => ?_)
  simp only [qa, qb, qc, qd] at ho; subst ho
  refine ⟨by kernel_rfl, fun wn hl K hK => ?_⟩
  have HR3 := Lib.hid (HR3.out.later hl); have HB := Lib.hid (below_on HB.out hl); clear hl
  refine wp_enter _ _ (by go_simp; exact ⟨rfl, rfl⟩) ?_
  refine (printK HS2.out _ HFq.out (HV.out.on HB.out) (HC.out.on HB.out) (HPw.out.on HB.out)).mono ?_; rintro e wm ⟨rfl, hb⟩; refine ⟨_, rfl, ?_⟩
  refine hK.out _ _ hb ?_
  have HR3 := Lib.hid (HR3.out.later hb); have HB := Lib.hid (below_on HB.out hb); clear hb
  clear hK K
  simp only [Act.put, pa, pb, pc]
  refine ltk 7 (by kernel_rfl) (fun _ _ d _ _ h => by cases d <;> exact h) (fun o ho => ?_)
  simp only [qa, qb, qc, qd] at ho; subst ho
  apply Exists.intro
  refine ⟨Or.inl ⟨by kernel_rfl, fun w' hl => Or.inl ?_⟩, ?_⟩
  · (go_simp; try with_reducible rfl)
  simp only [Act.put, pa, pb, pc]
  refine ltk 8 (by kernel_rfl) (fun _ _ d _ _ h => by cases d <;> exact h) (fun o ho => ?_)
  simp only [qa, qb, qc, qd] at ho; subst ho
  apply Exists.intro
  refine ⟨Or.inl ⟨by kernel_rfl, fun w' hl => Or.inl ?_⟩, ?_⟩
  · (go_simp; try with_reducible rfl)
  simp only [Act.put, pa, pb, pc]
  refine late_end (by kernel_rfl) (fun wn hl => ?_)
  have HR3 := Lib.hid (HR3.out.later hl); have HB := Lib.hid (below_on HB.out hl); clear hl
  go_wp2_with fail
  refine late_begin 21 (by kernel_rfl) ?_
  refine ltk 0 (by kernel_rfl) (fun _ _ d _ _ h => by cases d <;> exact h) (fun o ho => ?_)
  simp only [qa, qb, qc, qd] at ho; subst ho
  apply Exists.intro
  refine ⟨Or.inl ⟨by kernel_rfl, fun w' hl => Or.inl ?_⟩, ?_⟩
  · (go_simp; try with_reducible rfl)
  simp only [Act.put, pa, pb, pc]
  refine ltk 1 (by kernel_rfl) (fun _ _ d _ _ h => by cases d <;> exact h) (fun o ho => ?_)
  simp only [qa, qb, qc, qd] at ho; subst ho
  apply Exists.intro
  refine ⟨Or.inl ⟨by kernel_rfl, fun w' hl => Or.inl ?_⟩, ?_⟩
  · (go_simp; try with_reducible rfl)
  simp only [Act.put, pa, pb, pc]
  refine ltk 4 (by kernel_rfl) (fun _ _ d _ _ h => by cases d <;> exact h) (fun o ho => ?_)
  simp only [qa, qb, qc, qd] at ho; subst ho
  apply Exists.intro
  refine ⟨Or.inl ⟨by kernel_rfl, fun w' hl => Or.inl ?_⟩, ?_⟩
  · (go_simp; try with_reducible rfl)
  simp only [Act.put, pa, pb, pc]
  refine ltk 5 (by kernel_rfl) (fun _ _ d _ _ h => by cases d <;> exact h) (fun o ho => ?_)
  simp only [qa, qb, qc, qd] at ho; subst ho
  apply Exists.intro
  refine ⟨Or.inl ⟨by kernel_rfl, fun w' hl => Or.inl ?_⟩, ?_⟩
  · (go_simp; try with_reducible rfl)
  simp only [Act.put, pa, pb, pc]
  refine late_one 2 (by kernel_rfl) (by kernel_rfl) (fun o ho => ?_)
  simp only [qa, qb, qc, qd] at ho; subst ho
  refine ⟨by kernel_rfl, fun wn hl K hK => ?_⟩
  have HB := Lib.hid (below_on HB.out hl); clear hl
  refine wp_enter _ _ (by go_simp; exact ⟨rfl, rfl⟩) ?_
  refine (spaceK HKa.out _).mono ?_; rintro e wm ⟨rfl, hb⟩; refine ⟨_, rfl, ?_⟩
  refine hK.out _ _ hb ?_
  have HB := Lib.hid (below_on HB.out hb); clear hb
  clear hK K
  simp only [Act.put, pa, pb, pc]
  refine ltk 3 (by kernel_rfl) (fun _ _ d _ _ h => by cases d <;> exact h) (fun o ho => ?_)
  simp only [qa, qb, qc, qd] at ho; subst ho
  refine ⟨.string t, Or.inl ⟨by kernel_rfl, fun w' hl => Or.inl (HTa.out _ _ _ _ _ rfl rfl rfl)⟩, ?_⟩
  simp only [Act.put, pa, pb, pc]
  refine late_one 6 (by kernel_rfl) (by kernel_rfl) (fun o ho => ?_)
  simp only [qa, qb, qc, qd] at ho; subst ho
  refine ⟨by kernel_rfl, fun wn hl K hK => ?_⟩
  have HB := Lib.hid (below_on HB.out hl); clear hl
  refine wp_enter _ _ (by go_simp; exact ⟨rfl, rfl⟩) ?_
  refine (spaceK HKb.out _).mono ?_; rintro e wm ⟨rfl, hb⟩; refine ⟨_, rfl, ?_⟩
  refine hK.out _ _ hb ?_
  have HB := Lib.hid (below_on HB.out hb); clear hb
  clear hK K
  simp only [Act.put, pa, pb, pc]
  refine ltk 7 (by kernel_rfl) (fun _ _ d _ _ h => by cases d <;> exact h) (fun o ho => ?_)
  simp only [qa, qb, qc, qd] at ho; subst ho
  refine ⟨.string t, Or.inl ⟨by kernel_rfl, fun w' hl => Or.inl (HTb.out _ _ _ _ _ rfl rfl rfl)⟩, ?_⟩
  simp only [Act.put, pa, pb, pc]
  refine ltk 8 (by kernel_rfl) (fun _ _ d _ _ h => by cases d <;> exact h) (fun o ho => ?_)
  simp only [qa, qb, qc, qd] at ho; subst ho
  refine ⟨.bool true, Or.inl ⟨by kernel_rfl, fun w' hl => Or.inl ?_⟩, ?_⟩
  · (go_simp; try simp)
  simp only [Act.put, pa, pb, pc]
  refine ltk 9 (by kernel_rfl) (fun _ _ d _ _ h => by cases d <;> exact h) (fun o ho => ?_)
  simp only [qa, qb, qc, qd] at ho; subst ho
  apply Exists.intro
  refine ⟨Or.inl ⟨by kernel_rfl, fun w' hl => Or.inl ?_⟩, ?_⟩
  · (go_simp; try with_reducible rfl)
  simp only [Act.put, pa, pb, pc]
  refine ltk 10 (by kernel_rfl) (fun _ _ d _ _ h => by cases d <;> exact h) (fun o ho => ?_)
  simp only [qa, qb, qc, qd] at ho; subst ho
  apply Exists.intro
  refine ⟨Or.inl ⟨by kernel_rfl, fun w' hl => Or.inl ?_⟩, ?_⟩
  · (go_simp; try with_reducible rfl)
  simp only [Act.put, pa, pb, pc]
  refine ltk 11 (by kernel_rfl) (fun _ _ d _ _ h => by cases d <;> exact h) (fun o ho => ?_)
  simp only [qa, qb, qc, qd] at ho; subst ho
  apply Exists.intro
  refine ⟨Or.inl ⟨by kernel_rfl, fun w' hl => Or.inl ?_⟩, ?_⟩
  · (go_simp; try with_reducible rfl)
  simp only [Act.put, pa, pb, pc]
  refine ltk 14 (by kernel_rfl) (fun _ _ d _ _ h => by cases d <;> exact h) (fun o ho => ?_)
  simp only [qa, qb, qc, qd] at ho; subst ho
  apply Exists.intro
  refine ⟨Or.inl ⟨by kernel_rfl, fun w' hl => Or.inl ?_⟩, ?_⟩
  · (go_simp; try with_reducible rfl)
  simp only [Act.put, pa, pb, pc]
  refine ltk 15 (by kernel_rfl) (fun _ _ d _ _ h => by cases d <;> exact h) (fun o ho => ?_)
  simp only [qa, qb, qc, qd] at ho; subst ho
  apply Exists.intro
  refine ⟨Or.inl ⟨by kernel_rfl, fun w' hl => Or.inl ?_⟩, ?_⟩
  · (go_simp; try with_reducible rfl)
  simp only [Act.put, pa, pb, pc]
  refine late_one 12 (by kernel_rfl) (by kernel_rfl) (fun o ho => ?_)
  simp only [qa, qb, qc, qd] at ho; subst ho
  refine ⟨by kernel_rfl, fun wn hl K hK => ?_⟩
  have HB := Lib.hid (below_on HB.out hl); clear hl
  refine wp_enter _ _ (by go_simp; exact ⟨rfl, rfl⟩) ?_
  refine (spaceK HKa.out _).mono ?_; rintro e wm ⟨rfl, hb⟩; refine ⟨_, rfl, ?_⟩
  refine hK.out _ _ hb ?_
  have HB := Lib.hid (below_on HB.out hb); clear hb
  clear hK K
  simp only [Act.put, pa, pb, pc]
  refine ltk 13 (by kernel_rfl) (fun _ _ d _ _ h => by cases d <;> exact h) (fun o ho => ?_)
  simp only [qa, qb, qc, qd] at ho; subst ho
  refine ⟨.string u1, Or.inl ⟨by kernel_rfl, fun w' hl => Or.inl (HHa.out _ _ _ _ _ rfl rfl rfl)⟩, ?_⟩
  simp only [Act.put, pa, pb, pc]
  refine late_one 16 (by kernel_rfl) (by kernel_rfl) (fun o ho => ?_)
  simp only [qa, qb, qc, qd] at ho; subst ho
  refine ⟨by kernel_rfl, fun wn hl K hK => ?_⟩
  have HB := Lib.hid (below_on HB.out hl); clear hl
  refine wp_enter _ _ (by go_simp; exact ⟨rfl, rfl⟩) ?_
  refine (spaceK HKb.out _).mono ?_; rintro e wm ⟨rfl, hb⟩; refine ⟨_, rfl, ?_⟩
  refine hK.out _ _ hb ?_
  have HB := Lib.hid (below_on HB.out hb); clear hb
  clear hK K
  simp only [Act.put, pa, pb, pc]
  refine ltk 17 (by kernel_rfl) (fun _ _ d _ _ h => by cases d <;> exact h) (fun o ho => ?_)
  simp only [qa, qb, qc, qd] at ho; subst ho
  refine ⟨.string u2, Or.inl ⟨by kernel_rfl, fun w' hl => Or.inl (HHb.out _ _ _ _ _ rfl rfl rfl)⟩, ?_⟩
  simp only [Act.put, pa, pb, pc]
  refine ltk 18 (by kernel_rfl) (fun _ _ d _ _ h => by cases d <;> exact h) (fun o ho => ?_)
  simp only [qa, qb, qc, qd] at ho; subst ho
  refine ⟨.bool true, Or.inl ⟨by kernel_rfl, fun w' hl => Or.inl ?_⟩, ?_⟩
  · (go_simp; exact HUn.out)
  simp only [Act.put, pa, pb, pc]
  refine ltk 19 (by kernel_rfl) (fun _ _ d _ _ h => by cases d <;> exact h) (fun o ho => ?_)
  simp only [qa, qb, qc, qd] at ho; subst ho
  apply Exists.intro
  refine ⟨Or.inl ⟨by kernel_rfl, fun w' hl => Or.inl ?_⟩, ?_⟩
  · (go_simp; try with_reducible rfl)
  simp only [Act.put, pa, pb, pc]
  refine ltk 20 (by kernel_rfl) (fun _ _ d _ _ h => by cases d <;> exact h) (fun o ho => ?_)
  simp only [qa, qb, qc, qd] at ho; subst ho
  apply Exists.intro
  refine ⟨Or.inl ⟨by kernel_rfl, fun w' hl => Or.inl ?_⟩, ?_⟩
  · (go_simp; try with_reducible rfl)
  simp only [Act.put, pa, pb, pc]
  refine late_end (by kernel_rfl) (fun wn hl => ?_)
  have HB := Lib.hid (below_on HB.out hl); clear hl
  go_wp2_with fail
  go_ret
  exact ⟨rfl, HB.out⟩
theorem walk0 (p : Nat → Int) (s x : Int) (hw : WfP p) (hfar : ∀ i, 88 ≤ i → p i = 0) (hx : 0 ≤ x ∧ x ≤ 255) (w : World) (hP : TabPow w) (hT : TabErr w) (hV : TabVar w) (hK : TabKn w) (hC : TabCorn w) (hM : TabMx w) :
    Calls Tryz.prog 4 #[.agg (posA p), .int .i64 s, .int .u8 x] w (BoL true w) := by
  have hF := FitF.of hw
  have hrw : ∀ i, 79 ≤ i → i < 83 → (Lit.int .i8 (p i)).wf = true := fun i h1 h2 => by
    have k : kAt i = .i8 := by unfold kAt; rw [if_neg (by omega), if_pos ⟨h1, by omega⟩]
    rw [← k]; exact hw i (by omega)
  cases hrk : rkB4 p
  · exact fp_0 p s x w hrw hx hrk hM hT hC hV hP hK
  · cases hpc : pcB x
    · exact fp_1 p s x w hrw hx hrk hpc hM hT hC hV hP hK
    · cases g1 : decide (s < 0)
      · cases g2 : decide (63 < s)
        · have h0 := of_decide_eq_false g1
          have h63 := of_decide_eq_false g2
          obtain ⟨n, rfl⟩ := Int.eq_ofNat_of_zero_le (show 0 ≤ s by omega)
          have hn : n < 64 := by omega
          by_cases hz : p (1 + n) = 0
          · by_cases he : fenL p = []
            · exact fp_5 p n x w hrw hx hrk hpc hn hz hF he hM hT hC hV hP hK
            · by_cases he2 : fenL (upd p (1 + n) x) = []
              · exact fp_6 p n x w hrw hx hrk hpc hn hz hF he he2 hM hT hC hV hP hK
              · exact fp_7 p n x w hrw hx hrk hpc hn hz hF hfar he he2 hM hT hC hV hP hK
          · exact fp_4 p n x w hrw hx hrk hpc hn hz hM hT hC hV hP hK
        · exact fp_3 p s x w hrw hx hrk hpc g1 g2 hM hT hC hV hP hK
      · exact fp_2 p s x w hrw hx hrk hpc g1 hM hT hC hV hP hK
theorem walk (p : Nat → Int) (s x : Int) (hw : WfP p) (_hs : (Lit.int .i64 s).wf = true) (hx : (Lit.int .u8 x).wf = true) (w : World) (hP : TabPow w) (hEr : TabErrR w) (hEs : TabErrS w) (hV : TabVar w) (hK : TabKn w) (hC : TabCorn w) (hM : TabMx w) :
    Calls Tryz.prog 4 #[.agg (posA p), .int .i64 s, .int .u8 x] w fun e w' => e = .returned (.bool true) ∧ Below w.heap.size w w' := by
  rw [← posA_cut p]
  exact walk0 (cutP p) s x (fun i hi => by rw [cutP_at hi]; exact hw i hi) (fun i hi => cutP_far i hi) (u8_rng hx) w hP ⟨hEs, hEr⟩ hV hK hC hM
end Go.Proofs.YtjbfjohgfbipgaaGreatDoor.fenPut
