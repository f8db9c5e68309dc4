/-
  Layer 11's 'awake': the chapter's examples.
-/
import Derived.Test.YtgfgohlolnlcjaaDoorMvF
import Derived.Test.YtgfgohlolnlcjaaDoorRuStart
namespace Go.Proofs.YtgfgohlolnlcjaaDoor
open Go.RowKit
set_option linter.unusedVariables false
set_option linter.unusedSimpArgs false

/-- The block g holds these texts. -/
def StrsM (w : World) (g : Nat) (ls : List (List UInt8)) : Prop := ∀ (j : Nat) (l : List UInt8), ls[j]? = some l → w.cell? ⟨g, j, none⟩ = some (.string (bz l))
theorem strsM_on {w w' : World} {g : Nat} {ls : List (List UInt8)} (h : StrsM w g ls) (hb : Below w.heap.size w w') : StrsM w' g ls := fun j l hl => by
  have hc := h j l hl
  rw [← hc]
  exact hb.cell (p := ⟨g, j, none⟩) (World.block_lt_of_cell? w _ hc)
theorem StrsM.later {w w' : World} {g : Nat} {ls : List (List UInt8)} (h : StrsM w g ls) (hb : Below w.heap.size w w') : StrsM w' g ls := strsM_on h hb
theorem late_blka {o : Oper} {a : Act} {w : World} {K : Act → World → Prop} {Q : Exit → Act → World → Prop} (T : TypeId) (ho : o.op = .alloc T) (zs : Array Value) (hz : (Tryd.prog.info? T).map (fun i => (i.zero, i.size)) = some (some (.agg zs), zs.size))
    (h : ∀ b w', New b w w' → Blk w' b T zs → K (a.put o.dst (.pointer (some ⟨b, 0, none⟩))) w') : Wp Tryd.prog o a w K Q := ⟨by
  have hk := h _ _ (New.alloc w _) (heap_alloc_new w (.cells zs T))
  have hzr : ∀ w, (zeroValue T).run Tryd.prog w = .ok (.agg zs) w := fun w => by
    cases hq : Tryd.prog.info? T with
    | none => simp [hq] at hz
    | some i => simp [hq] at hz; simp [zeroValue, typeInfo, hq, hz.1]
  unfold Oper.wp execOp
  simp only [ho, Instr.alloc, Sem.run_bind, Sem.run_pure, Result.andThen_ok, hzr]
  exact hk⟩
theorem strsM_upd {w w' : World} {b g : Nat} {ls : List (List UInt8)} (h : StrsM w g ls) (u : Upd b w w') (hg : g ≠ b) : StrsM w' g ls := fun j l hl => by
  rw [← h j l hl]; exact World.cell?_of_block (u.block g hg)
theorem fitM_of {p : Nat → Int} (h : (decide (0 ≤ p 0) && decide (p 0 ≤ 255) && decide (0 ≤ p 78) && decide (p 78 ≤ 255) && decide (-128 ≤ p 79) && decide (p 79 ≤ 127) && decide (-128 ≤ p 80) && decide (p 80 ≤ 127) && decide (-128 ≤ p 81) && decide (p 81 ≤ 127) && decide (-128 ≤ p 82) && decide (p 82 ≤ 127)) = true) : FitM p := by
  simp only [Bool.and_eq_true, decide_eq_true_eq] at h
  refine ⟨⟨h.1.1.1.1.1.1.1.1.1.1.1, h.1.1.1.1.1.1.1.1.1.1.2⟩, ⟨h.1.1.1.1.1.1.1.1.1.2, h.1.1.1.1.1.1.1.1.2⟩, fun i h1 h2 => ?_⟩
  have e : i = 79 ∨ i = 80 ∨ i = 81 ∨ i = 82 := by omega
  rcases e with rfl | rfl | rfl | rfl <;> omega
theorem mfit0 : FitM (startP 0) := fitM_of (by decide +kernel)
theorem mfit1 : FitM (startP 1) := fitM_of (by decide +kernel)
theorem mfit2 : FitM (startP 2) := fitM_of (by decide +kernel)
theorem fitV_of {m : Mv} (h : (decide (-128 ≤ m.f) && decide (m.f ≤ 127) && decide (-128 ≤ m.t) && decide (m.t ≤ 127) && decide (0 ≤ m.pr) && decide (m.pr ≤ 255) && decide (0 ≤ m.dr) && decide (m.dr ≤ 255)) = true) : FitV m := by
  simp only [Bool.and_eq_true, decide_eq_true_eq] at h
  exact ⟨⟨h.1.1.1.1.1.1.1, h.1.1.1.1.1.1.2⟩, ⟨h.1.1.1.1.1.2, h.1.1.1.1.2⟩, ⟨h.1.1.1.2, h.1.1.2⟩, ⟨h.1.2, h.2⟩⟩
def isM (x : Option Mv) (m : Mv) : Bool := match x with | some n => mvE n m | none => false
theorem isM_true {x : Option Mv} {m : Mv} (h : isM x m = true) : x = some m := by
  cases x with
  | none => cases h
  | some n => rw [mvE_true.1 h]
theorem maT0 : mvT (startP 0) ⟨12, 28, 0, 0, false⟩ = [101, 50, 101, 52] := by decide +kernel
theorem maT1 : mvT (startP 0) ⟨52, 60, 5, 0, false⟩ = [101, 55, 101, 56, 113] := by decide +kernel
theorem maT2 : mvT (startP 0) ⟨4, 7, 0, 0, true⟩ = [101, 49, 103, 49] := by decide +kernel
theorem maT3 : mvT (startP 0) ⟨4, 6, 0, 0, false⟩ = [] := by decide +kernel
theorem maT4 : mvT (startP 1) ⟨4, 7, 0, 0, true⟩ = [101, 49, 104, 49] := by decide +kernel
theorem maT5 : mvT (startP 1) ⟨4, 7, 0, 0, false⟩ = [] := by decide +kernel
theorem maT6 : mvT (startP 1) ⟨4, 6, 0, 0, false⟩ = [101, 49, 103, 49] := by decide +kernel
theorem maT7 : mvT (startP 2) ⟨21, 21, 0, 2, false⟩ = [78, 64, 102, 51] := by decide +kernel
theorem maT8 : mvT (startP 2) ⟨21, 21, 0, 6, false⟩ = [] := by decide +kernel
theorem maP0 : mvP (startP 0) [101, 49, 103, 49] = some ⟨4, 7, 0, 0, true⟩ := isM_true (by decide +kernel)
theorem maP1 : mvP (startP 0) [101, 49, 99, 49] = some ⟨4, 0, 0, 0, true⟩ := isM_true (by decide +kernel)
theorem maP2 : mvP (startP 0) [101, 49, 102, 49] = some ⟨4, 5, 0, 0, false⟩ := isM_true (by decide +kernel)
def maL : List (List UInt8) := [[101, 50, 101, 50], [101, 50], [101, 50, 101, 57], [101, 50, 101, 52, 112], [110, 64, 102, 51], [78, 64, 102, 57]]
theorem maL_all : maL.all (fun l => (mvP (startP 0) l).isNone) = true := by decide +kernel
theorem maL_at (k : Nat) (hk : k < 6) : ∃ l, maL[k]? = some l ∧ mvP (startP 0) l = none ∧ l.length ≤ 10000 := by
  have hl : k < maL.length := hk
  refine ⟨maL[k], List.getElem?_eq_getElem hl, ?_, ?_⟩
  · have := List.all_eq_true.1 maL_all _ (List.getElem_mem hl)
    exact Option.isNone_iff_eq_none.1 this
  · have key : maL.all (fun l => decide (l.length ≤ 10000)) = true := by decide +kernel
    exact of_decide_eq_true (List.all_eq_true.1 key _ (List.getElem_mem hl))
theorem ma_sm : smB (startP 0) = true := by decide +kernel
theorem maStr {w : World} {g : Nat} (h : Blk w g 9 (#[.string ⟨#[101, 50, 101, 50]⟩, .string ⟨#[101, 50]⟩, .string ⟨#[101, 50, 101, 57]⟩, .string ⟨#[101, 50, 101, 52, 112]⟩, .string ⟨#[110, 64, 102, 51]⟩, .string ⟨#[78, 64, 102, 57]⟩])) : StrsM w g maL := fun j l hl => by
  rw [Blk.cell h]
  have hj : j < 6 := (List.getElem?_eq_some_iff.1 hl).1
  rcases (by omega : j = 0 ∨ j = 1 ∨ j = 2 ∨ j = 3 ∨ j = 4 ∨ j = 5) with rfl | rfl | rfl | rfl | rfl | rfl <;> (cases hl; rfl)
set_option maxRecDepth 100000 in
set_option maxHeartbeats 1000000 in
theorem mawake_any (w : World) (hG : TabGo w) (hM : TabMv w) (hV : TabVar w) (hK : TabKn w) : Calls Tryd.prog 13 #[] w (BoL true w) := by
  have HG := Lib.hid hG
  have HMx := Lib.hid hM
  have HV := Lib.hid hV
  have HK := Lib.hid hK
  have HB := Lib.hid (Below.refl w.heap.size w)
  have HS0 := Lib.hid (fun (w : World) hV hK => start_any 0 w (by decide) hV hK)
  have HF0 := Lib.hid mfit0
  have HS1 := Lib.hid (fun (w : World) hV hK => start_any 1 w (by decide) hV hK)
  have HF1 := Lib.hid mfit1
  have HS2 := Lib.hid (fun (w : World) hV hK => start_any 2 w (by decide) hV hK)
  have HF2 := Lib.hid mfit2
  have HT0 := Lib.hid maT0
  have HT1 := Lib.hid maT1
  have HT2 := Lib.hid maT2
  have HT3 := Lib.hid maT3
  have HT4 := Lib.hid maT4
  have HT5 := Lib.hid maT5
  have HT6 := Lib.hid maT6
  have HT7 := Lib.hid maT7
  have HT8 := Lib.hid maT8
  have HP0 := Lib.hid maP0
  have HP1 := Lib.hid maP1
  have HP2 := Lib.hid maP2
  have HL := Lib.hid maL_at
  have HSm := Lib.hid ma_sm
  generalize startP 0 = p0 at *
  generalize startP 1 = p1 at *
  generalize startP 2 = p2 at *
  obtain ⟨x0, hx0⟩ : ∃ x, bz ([101, 50, 101, 52] : List UInt8) = x := ⟨_, rfl⟩
  have HX0 := Lib.hid (show bz (mvT p0 ⟨12, 28, 0, 0, false⟩) = x0 by rw [HT0.out]; exact hx0)
  have e0 : (x0.toList == ([101, 50, 101, 52] : List UInt8)) = true := by rw [← hx0, bz_toList]; rfl
  clear hx0
  obtain ⟨x1, hx1⟩ : ∃ x, bz ([101, 55, 101, 56, 113] : List UInt8) = x := ⟨_, rfl⟩
  have HX1 := Lib.hid (show bz (mvT p0 ⟨52, 60, 5, 0, false⟩) = x1 by rw [HT1.out]; exact hx1)
  have e1 : (x1.toList == ([101, 55, 101, 56, 113] : List UInt8)) = true := by rw [← hx1, bz_toList]; rfl
  clear hx1
  obtain ⟨x2, hx2⟩ : ∃ x, bz ([101, 49, 103, 49] : List UInt8) = x := ⟨_, rfl⟩
  have HX2 := Lib.hid (show bz (mvT p0 ⟨4, 7, 0, 0, true⟩) = x2 by rw [HT2.out]; exact hx2)
  have e2 : (x2.toList == ([101, 49, 103, 49] : List UInt8)) = true := by rw [← hx2, bz_toList]; rfl
  clear hx2
  obtain ⟨x3, hx3⟩ : ∃ x, bz ([] : List UInt8) = x := ⟨_, rfl⟩
  have HX3 := Lib.hid (show bz (mvT p0 ⟨4, 6, 0, 0, false⟩) = x3 by rw [HT3.out]; exact hx3)
  have e3 : x3.toList.isEmpty = true := by rw [← hx3, bz_toList]; rfl
  clear hx3
  obtain ⟨x4, hx4⟩ : ∃ x, bz ([101, 49, 104, 49] : List UInt8) = x := ⟨_, rfl⟩
  have HX4 := Lib.hid (show bz (mvT p1 ⟨4, 7, 0, 0, true⟩) = x4 by rw [HT4.out]; exact hx4)
  have e4 : (x4.toList == ([101, 49, 104, 49] : List UInt8)) = true := by rw [← hx4, bz_toList]; rfl
  clear hx4
  obtain ⟨x5, hx5⟩ : ∃ x, bz ([] : List UInt8) = x := ⟨_, rfl⟩
  have HX5 := Lib.hid (show bz (mvT p1 ⟨4, 7, 0, 0, false⟩) = x5 by rw [HT5.out]; exact hx5)
  have e5 : x5.toList.isEmpty = true := by rw [← hx5, bz_toList]; rfl
  clear hx5
  obtain ⟨x6, hx6⟩ : ∃ x, bz ([101, 49, 103, 49] : List UInt8) = x := ⟨_, rfl⟩
  have HX6 := Lib.hid (show bz (mvT p1 ⟨4, 6, 0, 0, false⟩) = x6 by rw [HT6.out]; exact hx6)
  have e6 : (x6.toList == ([101, 49, 103, 49] : List UInt8)) = true := by rw [← hx6, bz_toList]; rfl
  clear hx6
  obtain ⟨x7, hx7⟩ : ∃ x, bz ([78, 64, 102, 51] : List UInt8) = x := ⟨_, rfl⟩
  have HX7 := Lib.hid (show bz (mvT p2 ⟨21, 21, 0, 2, false⟩) = x7 by rw [HT7.out]; exact hx7)
  have e7 : (x7.toList == ([78, 64, 102, 51] : List UInt8)) = true := by rw [← hx7, bz_toList]; rfl
  clear hx7
  obtain ⟨x8, hx8⟩ : ∃ x, bz ([] : List UInt8) = x := ⟨_, rfl⟩
  have HX8 := Lib.hid (show bz (mvT p2 ⟨21, 21, 0, 6, false⟩) = x8 by rw [HT8.out]; exact hx8)
  have e8 : x8.toList.isEmpty = true := by rw [← hx8, bz_toList]; rfl
  clear hx8
  clear hG hM hV hK
  go_enter Tryd.func13, Tryd.ntmps13
  go_wp2_with fail
  refine (HS0.out _ (HV.out.on HB.out) (HK.out.on HB.out)).mono ?_; rintro e wf ⟨rfl, hb⟩; rw [show decide ((0 : Nat) < 9) = true from rfl]; have HB := Lib.hid (below_on HB.out hb); clear hb
  go_wp2_with (first
    | (refine step_alloc rfl rfl ?_; intro b1 w4 N R; have HGb1 := Lib.hid (show w.heap.size ≤ b1 by rw [N.at_]; exact HB.out.size); have HB := Lib.hid (HB.out.trans (N.below.mono HB.out.size)); have HR0 := Lib.hid R; clear N R)
    | (refine step_store rfl _ _ rfl b1 rfl zeroP p0 rfl ?_ ?_; exact HR0.out; intro w5 U R; have HB := Lib.hid (HB.out.trans (U.below HGb1.out)); have HR0 := Lib.hid R; clear U R))
  refine (HS1.out _ (HV.out.on HB.out) (HK.out.on HB.out)).mono ?_; rintro e wf ⟨rfl, hb⟩; rw [show decide ((1 : Nat) < 9) = true from rfl]; have HR0 := Lib.hid (HR0.out.later hb); have HB := Lib.hid (below_on HB.out hb); clear hb
  go_wp2_with (first
    | (refine step_alloc rfl rfl ?_; intro b3 w4 N R; have HGb3 := Lib.hid (show w.heap.size ≤ b3 by rw [N.at_]; exact HB.out.size); have HDHR0b3 := Lib.hid (show b1 ≠ b3 by rw [N.at_]; exact Nat.ne_of_lt HR0.out.lt); have HR0 := Lib.hid (HR0.out.later N.below); have HB := Lib.hid (HB.out.trans (N.below.mono HB.out.size)); have HR1 := Lib.hid R; clear N R)
    | (refine step_store rfl _ _ rfl b3 rfl zeroP p1 rfl ?_ ?_; exact HR1.out; intro w5 U R; have HR0 := Lib.hid (HR0.out.apart U HDHR0b3.out); have HB := Lib.hid (HB.out.trans (U.below HGb3.out)); have HR1 := Lib.hid R; clear U R))
  refine (HS2.out _ (HV.out.on HB.out) (HK.out.on HB.out)).mono ?_; rintro e wf ⟨rfl, hb⟩; rw [show decide ((2 : Nat) < 9) = true from rfl]; have HR0 := Lib.hid (HR0.out.later hb); have HR1 := Lib.hid (HR1.out.later hb); have HB := Lib.hid (below_on HB.out hb); clear hb
  go_wp2_with (first
    | (refine step_alloc rfl rfl ?_; intro b5 w4 N R; have HGb5 := Lib.hid (show w.heap.size ≤ b5 by rw [N.at_]; exact HB.out.size); have HDHR0b5 := Lib.hid (show b1 ≠ b5 by rw [N.at_]; exact Nat.ne_of_lt HR0.out.lt); have HR0 := Lib.hid (HR0.out.later N.below); have HDHR1b5 := Lib.hid (show b3 ≠ b5 by rw [N.at_]; exact Nat.ne_of_lt HR1.out.lt); have HR1 := Lib.hid (HR1.out.later N.below); have HB := Lib.hid (HB.out.trans (N.below.mono HB.out.size)); have HR2 := Lib.hid R; clear N R)
    | (refine step_store rfl _ _ rfl b5 rfl zeroP p2 rfl ?_ ?_; exact HR2.out; intro w5 U R; have HR0 := Lib.hid (HR0.out.apart U HDHR0b5.out); have HR1 := Lib.hid (HR1.out.apart U HDHR1b5.out); have HB := Lib.hid (HB.out.trans (U.below HGb5.out)); have HR2 := Lib.hid R; clear U R)
    | (refine blk_alloc rfl 33 rfl (mvA mv0) zeroMv ?_; intro b7 w4 N R; have HGb7 := Lib.hid (show w.heap.size ≤ b7 by rw [N.at_]; exact HB.out.size); have HDHR0b7 := Lib.hid (show b1 ≠ b7 by rw [N.at_]; exact Nat.ne_of_lt HR0.out.lt); have HR0 := Lib.hid (HR0.out.later N.below); have HDHR1b7 := Lib.hid (show b3 ≠ b7 by rw [N.at_]; exact Nat.ne_of_lt HR1.out.lt); have HR1 := Lib.hid (HR1.out.later N.below); have HDHR2b7 := Lib.hid (show b5 ≠ b7 by rw [N.at_]; exact Nat.ne_of_lt HR2.out.lt); have HR2 := Lib.hid (HR2.out.later N.below); have HB := Lib.hid (HB.out.trans (N.below.mono HB.out.size)); have HM7 := Lib.hid R; clear N R)
    | (refine blk_store rfl 33 _ _ rfl b7 rfl (mvA mv0) (mvA ⟨4, 7, 0, 0, true⟩) rfl ?_ rfl (mv_one _) sizeMv ?_; exact HM7.out; intro w5 U R; have HR0 := Lib.hid (HR0.out.apart U HDHR0b7.out); have HR1 := Lib.hid (HR1.out.apart U HDHR1b7.out); have HR2 := Lib.hid (HR2.out.apart U HDHR2b7.out); have HB := Lib.hid (HB.out.trans (U.below HGb7.out)); have HM7 := Lib.hid R; clear U R)
    | (refine step_load rfl _ rfl b1 rfl p0 ?_ ?_; exact HR0.out))
  refine (mvText_any p0 ⟨12, 28, 0, 0, false⟩ _ HF0.out (fitV_of rfl) (HG.out.on HB.out)).mono ?_; rintro e wf ⟨rfl, hb⟩; rw [HX0.out]; have HR0 := Lib.hid (HR0.out.later hb); have HR1 := Lib.hid (HR1.out.later hb); have HR2 := Lib.hid (HR2.out.later hb); have HM7 := Lib.hid (HM7.out.later hb); have HB := Lib.hid (below_on HB.out hb); clear hb
  go_wp2_with (first
    | (refine step_load rfl _ rfl b1 rfl p0 ?_ ?_; exact HR0.out)
    | (refine step_load rfl _ rfl b3 rfl p1 ?_ ?_; exact HR1.out)
    | (refine step_load rfl _ rfl b5 rfl p2 ?_ ?_; exact HR2.out)
    | (refine blk_load rfl 33 _ rfl b7 rfl (mvA ⟨4, 7, 0, 0, true⟩) ?_ _ Tryd.underlying33 rfl sizeMv ?_; exact HM7.out))
  refine (mvText_any p0 ⟨52, 60, 5, 0, false⟩ _ HF0.out (fitV_of rfl) (HG.out.on HB.out)).mono ?_; rintro e wf ⟨rfl, hb⟩; rw [HX1.out]; have HR0 := Lib.hid (HR0.out.later hb); have HR1 := Lib.hid (HR1.out.later hb); have HR2 := Lib.hid (HR2.out.later hb); have HM7 := Lib.hid (HM7.out.later hb); have HB := Lib.hid (below_on HB.out hb); clear hb
  go_wp2_with (first
    | (refine step_load rfl _ rfl b1 rfl p0 ?_ ?_; exact HR0.out)
    | (refine step_load rfl _ rfl b3 rfl p1 ?_ ?_; exact HR1.out)
    | (refine step_load rfl _ rfl b5 rfl p2 ?_ ?_; exact HR2.out)
    | (refine blk_load rfl 33 _ rfl b7 rfl (mvA ⟨4, 7, 0, 0, true⟩) ?_ _ Tryd.underlying33 rfl sizeMv ?_; exact HM7.out))
  refine (mvText_any p0 ⟨4, 7, 0, 0, true⟩ _ HF0.out (fitV_of rfl) (HG.out.on HB.out)).mono ?_; rintro e wf ⟨rfl, hb⟩; rw [HX2.out]; have HR0 := Lib.hid (HR0.out.later hb); have HR1 := Lib.hid (HR1.out.later hb); have HR2 := Lib.hid (HR2.out.later hb); have HM7 := Lib.hid (HM7.out.later hb); have HB := Lib.hid (below_on HB.out hb); clear hb
  go_wp2_with (first
    | (refine step_load rfl _ rfl b1 rfl p0 ?_ ?_; exact HR0.out)
    | (refine step_load rfl _ rfl b3 rfl p1 ?_ ?_; exact HR1.out)
    | (refine step_load rfl _ rfl b5 rfl p2 ?_ ?_; exact HR2.out)
    | (refine blk_load rfl 33 _ rfl b7 rfl (mvA ⟨4, 7, 0, 0, true⟩) ?_ _ Tryd.underlying33 rfl sizeMv ?_; exact HM7.out))
  refine (mvText_any p0 ⟨4, 6, 0, 0, false⟩ _ HF0.out (fitV_of rfl) (HG.out.on HB.out)).mono ?_; rintro e wf ⟨rfl, hb⟩; rw [HX3.out]; have HR0 := Lib.hid (HR0.out.later hb); have HR1 := Lib.hid (HR1.out.later hb); have HR2 := Lib.hid (HR2.out.later hb); have HM7 := Lib.hid (HM7.out.later hb); have HB := Lib.hid (below_on HB.out hb); clear hb
  go_wp2_with (first
    | (refine step_load rfl _ rfl b1 rfl p0 ?_ ?_; exact HR0.out)
    | (refine step_load rfl _ rfl b3 rfl p1 ?_ ?_; exact HR1.out)
    | (refine step_load rfl _ rfl b5 rfl p2 ?_ ?_; exact HR2.out)
    | (refine blk_load rfl 33 _ rfl b7 rfl (mvA ⟨4, 7, 0, 0, true⟩) ?_ _ Tryd.underlying33 rfl sizeMv ?_; exact HM7.out))
  refine (mvText_any p1 ⟨4, 7, 0, 0, true⟩ _ HF1.out (fitV_of rfl) (HG.out.on HB.out)).mono ?_; rintro e wf ⟨rfl, hb⟩; rw [HX4.out]; have HR0 := Lib.hid (HR0.out.later hb); have HR1 := Lib.hid (HR1.out.later hb); have HR2 := Lib.hid (HR2.out.later hb); have HM7 := Lib.hid (HM7.out.later hb); have HB := Lib.hid (below_on HB.out hb); clear hb
  go_wp2_with (first
    | (refine step_load rfl _ rfl b1 rfl p0 ?_ ?_; exact HR0.out)
    | (refine step_load rfl _ rfl b3 rfl p1 ?_ ?_; exact HR1.out)
    | (refine step_load rfl _ rfl b5 rfl p2 ?_ ?_; exact HR2.out)
    | (refine blk_load rfl 33 _ rfl b7 rfl (mvA ⟨4, 7, 0, 0, true⟩) ?_ _ Tryd.underlying33 rfl sizeMv ?_; exact HM7.out))
  refine (mvText_any p1 ⟨4, 7, 0, 0, false⟩ _ HF1.out (fitV_of rfl) (HG.out.on HB.out)).mono ?_; rintro e wf ⟨rfl, hb⟩; rw [HX5.out]; have HR0 := Lib.hid (HR0.out.later hb); have HR1 := Lib.hid (HR1.out.later hb); have HR2 := Lib.hid (HR2.out.later hb); have HM7 := Lib.hid (HM7.out.later hb); have HB := Lib.hid (below_on HB.out hb); clear hb
  go_wp2_with (first
    | (refine step_load rfl _ rfl b1 rfl p0 ?_ ?_; exact HR0.out)
    | (refine step_load rfl _ rfl b3 rfl p1 ?_ ?_; exact HR1.out)
    | (refine step_load rfl _ rfl b5 rfl p2 ?_ ?_; exact HR2.out)
    | (refine blk_load rfl 33 _ rfl b7 rfl (mvA ⟨4, 7, 0, 0, true⟩) ?_ _ Tryd.underlying33 rfl sizeMv ?_; exact HM7.out))
  refine (mvText_any p1 ⟨4, 6, 0, 0, false⟩ _ HF1.out (fitV_of rfl) (HG.out.on HB.out)).mono ?_; rintro e wf ⟨rfl, hb⟩; rw [HX6.out]; have HR0 := Lib.hid (HR0.out.later hb); have HR1 := Lib.hid (HR1.out.later hb); have HR2 := Lib.hid (HR2.out.later hb); have HM7 := Lib.hid (HM7.out.later hb); have HB := Lib.hid (below_on HB.out hb); clear hb
  go_wp2_with (first
    | (refine step_load rfl _ rfl b1 rfl p0 ?_ ?_; exact HR0.out)
    | (refine step_load rfl _ rfl b3 rfl p1 ?_ ?_; exact HR1.out)
    | (refine step_load rfl _ rfl b5 rfl p2 ?_ ?_; exact HR2.out)
    | (refine blk_load rfl 33 _ rfl b7 rfl (mvA ⟨4, 7, 0, 0, true⟩) ?_ _ Tryd.underlying33 rfl sizeMv ?_; exact HM7.out))
  refine (mvText_any p2 ⟨21, 21, 0, 2, false⟩ _ HF2.out (fitV_of rfl) (HG.out.on HB.out)).mono ?_; rintro e wf ⟨rfl, hb⟩; rw [HX7.out]; have HR0 := Lib.hid (HR0.out.later hb); have HR1 := Lib.hid (HR1.out.later hb); have HR2 := Lib.hid (HR2.out.later hb); have HM7 := Lib.hid (HM7.out.later hb); have HB := Lib.hid (below_on HB.out hb); clear hb
  go_wp2_with (first
    | (refine step_load rfl _ rfl b1 rfl p0 ?_ ?_; exact HR0.out)
    | (refine step_load rfl _ rfl b3 rfl p1 ?_ ?_; exact HR1.out)
    | (refine step_load rfl _ rfl b5 rfl p2 ?_ ?_; exact HR2.out)
    | (refine blk_load rfl 33 _ rfl b7 rfl (mvA ⟨4, 7, 0, 0, true⟩) ?_ _ Tryd.underlying33 rfl sizeMv ?_; exact HM7.out))
  refine (mvText_any p2 ⟨21, 21, 0, 6, false⟩ _ HF2.out (fitV_of rfl) (HG.out.on HB.out)).mono ?_; rintro e wf ⟨rfl, hb⟩; rw [HX8.out]; have HR0 := Lib.hid (HR0.out.later hb); have HR1 := Lib.hid (HR1.out.later hb); have HR2 := Lib.hid (HR2.out.later hb); have HM7 := Lib.hid (HM7.out.later hb); have HB := Lib.hid (below_on HB.out hb); clear hb
  go_wp2_with (first
    | (refine step_load rfl _ rfl b1 rfl p0 ?_ ?_; exact HR0.out)
    | (refine step_load rfl _ rfl b3 rfl p1 ?_ ?_; exact HR1.out)
    | (refine step_load rfl _ rfl b5 rfl p2 ?_ ?_; exact HR2.out)
    | (refine blk_load rfl 33 _ rfl b7 rfl (mvA ⟨4, 7, 0, 0, true⟩) ?_ _ Tryd.underlying33 rfl sizeMv ?_; exact HM7.out))
  refine (mvParse_any p0 [101, 49, 103, 49] _ (by decide) HF0.out (HG.out.on HB.out) (HMx.out.on HB.out)).mono ?_; rintro e wf ⟨rfl, hb⟩; rw [HP0.out, show pmO (some ⟨4, 7, 0, 0, true⟩) = ⟨4, 7, 0, 0, true⟩ from rfl, show enO p0 (some ⟨4, 7, 0, 0, true⟩) = 0 from rfl]; have HR0 := Lib.hid (HR0.out.later hb); have HR1 := Lib.hid (HR1.out.later hb); have HR2 := Lib.hid (HR2.out.later hb); have HM7 := Lib.hid (HM7.out.later hb); have HB := Lib.hid (below_on HB.out hb); clear hb
  go_wp2_with (first
    | (refine blk_alloc rfl 33 rfl (mvA mv0) zeroMv ?_; intro b8 w4 N R; have HGb8 := Lib.hid (show w.heap.size ≤ b8 by rw [N.at_]; exact HB.out.size); have HDHR0b8 := Lib.hid (show b1 ≠ b8 by rw [N.at_]; exact Nat.ne_of_lt HR0.out.lt); have HR0 := Lib.hid (HR0.out.later N.below); have HDHR1b8 := Lib.hid (show b3 ≠ b8 by rw [N.at_]; exact Nat.ne_of_lt HR1.out.lt); have HR1 := Lib.hid (HR1.out.later N.below); have HDHR2b8 := Lib.hid (show b5 ≠ b8 by rw [N.at_]; exact Nat.ne_of_lt HR2.out.lt); have HR2 := Lib.hid (HR2.out.later N.below); have HDHM7b8 := Lib.hid (show b7 ≠ b8 by rw [N.at_]; exact Nat.ne_of_lt HM7.out.lt); have HM7 := Lib.hid (HM7.out.later N.below); have HB := Lib.hid (HB.out.trans (N.below.mono HB.out.size)); have HM8 := Lib.hid R; clear N R)
    | (refine blk_store rfl 33 _ _ rfl b8 rfl (mvA mv0) (mvA ⟨4, 7, 0, 0, true⟩) rfl ?_ rfl (mv_one _) sizeMv ?_; exact HM8.out; intro w5 U R; have HR0 := Lib.hid (HR0.out.apart U HDHR0b8.out); have HR1 := Lib.hid (HR1.out.apart U HDHR1b8.out); have HR2 := Lib.hid (HR2.out.apart U HDHR2b8.out); have HM7 := Lib.hid (HM7.out.apart U HDHM7b8.out); have HB := Lib.hid (HB.out.trans (U.below HGb8.out)); have HM8 := Lib.hid R; clear U R)
    | (refine step_load rfl _ rfl b1 rfl p0 ?_ ?_; exact HR0.out))
  refine (mvParse_any p0 [101, 49, 99, 49] _ (by decide) HF0.out (HG.out.on HB.out) (HMx.out.on HB.out)).mono ?_; rintro e wf ⟨rfl, hb⟩; rw [HP1.out, show pmO (some ⟨4, 0, 0, 0, true⟩) = ⟨4, 0, 0, 0, true⟩ from rfl, show enO p0 (some ⟨4, 0, 0, 0, true⟩) = 0 from rfl]; have HR0 := Lib.hid (HR0.out.later hb); have HR1 := Lib.hid (HR1.out.later hb); have HR2 := Lib.hid (HR2.out.later hb); have HM7 := Lib.hid (HM7.out.later hb); have HM8 := Lib.hid (HM8.out.later hb); have HB := Lib.hid (below_on HB.out hb); clear hb
  go_wp2_with (first
    | (refine blk_alloc rfl 33 rfl (mvA mv0) zeroMv ?_; intro b10 w4 N R; have HGb10 := Lib.hid (show w.heap.size ≤ b10 by rw [N.at_]; exact HB.out.size); have HDHR0b10 := Lib.hid (show b1 ≠ b10 by rw [N.at_]; exact Nat.ne_of_lt HR0.out.lt); have HR0 := Lib.hid (HR0.out.later N.below); have HDHR1b10 := Lib.hid (show b3 ≠ b10 by rw [N.at_]; exact Nat.ne_of_lt HR1.out.lt); have HR1 := Lib.hid (HR1.out.later N.below); have HDHR2b10 := Lib.hid (show b5 ≠ b10 by rw [N.at_]; exact Nat.ne_of_lt HR2.out.lt); have HR2 := Lib.hid (HR2.out.later N.below); have HDHM7b10 := Lib.hid (show b7 ≠ b10 by rw [N.at_]; exact Nat.ne_of_lt HM7.out.lt); have HM7 := Lib.hid (HM7.out.later N.below); have HDHM8b10 := Lib.hid (show b8 ≠ b10 by rw [N.at_]; exact Nat.ne_of_lt HM8.out.lt); have HM8 := Lib.hid (HM8.out.later N.below); have HB := Lib.hid (HB.out.trans (N.below.mono HB.out.size)); have HM10 := Lib.hid R; clear N R)
    | (refine blk_store rfl 33 _ _ rfl b10 rfl (mvA mv0) (mvA ⟨4, 0, 0, 0, true⟩) rfl ?_ rfl (mv_one _) sizeMv ?_; exact HM10.out; intro w5 U R; have HR0 := Lib.hid (HR0.out.apart U HDHR0b10.out); have HR1 := Lib.hid (HR1.out.apart U HDHR1b10.out); have HR2 := Lib.hid (HR2.out.apart U HDHR2b10.out); have HM7 := Lib.hid (HM7.out.apart U HDHM7b10.out); have HM8 := Lib.hid (HM8.out.apart U HDHM8b10.out); have HB := Lib.hid (HB.out.trans (U.below HGb10.out)); have HM10 := Lib.hid R; clear U R)
    | (refine step_load rfl _ rfl b1 rfl p0 ?_ ?_; exact HR0.out))
  refine (mvParse_any p0 [101, 49, 102, 49] _ (by decide) HF0.out (HG.out.on HB.out) (HMx.out.on HB.out)).mono ?_; rintro e wf ⟨rfl, hb⟩; rw [HP2.out, show pmO (some ⟨4, 5, 0, 0, false⟩) = ⟨4, 5, 0, 0, false⟩ from rfl, show enO p0 (some ⟨4, 5, 0, 0, false⟩) = 0 from rfl]; have HR0 := Lib.hid (HR0.out.later hb); have HR1 := Lib.hid (HR1.out.later hb); have HR2 := Lib.hid (HR2.out.later hb); have HM7 := Lib.hid (HM7.out.later hb); have HM8 := Lib.hid (HM8.out.later hb); have HM10 := Lib.hid (HM10.out.later hb); have HB := Lib.hid (below_on HB.out hb); clear hb
  go_wp2_with (first
    | (refine blk_alloc rfl 33 rfl (mvA mv0) zeroMv ?_; intro b12 w4 N R; have HGb12 := Lib.hid (show w.heap.size ≤ b12 by rw [N.at_]; exact HB.out.size); have HDHR0b12 := Lib.hid (show b1 ≠ b12 by rw [N.at_]; exact Nat.ne_of_lt HR0.out.lt); have HR0 := Lib.hid (HR0.out.later N.below); have HDHR1b12 := Lib.hid (show b3 ≠ b12 by rw [N.at_]; exact Nat.ne_of_lt HR1.out.lt); have HR1 := Lib.hid (HR1.out.later N.below); have HDHR2b12 := Lib.hid (show b5 ≠ b12 by rw [N.at_]; exact Nat.ne_of_lt HR2.out.lt); have HR2 := Lib.hid (HR2.out.later N.below); have HDHM7b12 := Lib.hid (show b7 ≠ b12 by rw [N.at_]; exact Nat.ne_of_lt HM7.out.lt); have HM7 := Lib.hid (HM7.out.later N.below); have HDHM8b12 := Lib.hid (show b8 ≠ b12 by rw [N.at_]; exact Nat.ne_of_lt HM8.out.lt); have HM8 := Lib.hid (HM8.out.later N.below); have HDHM10b12 := Lib.hid (show b10 ≠ b12 by rw [N.at_]; exact Nat.ne_of_lt HM10.out.lt); have HM10 := Lib.hid (HM10.out.later N.below); have HB := Lib.hid (HB.out.trans (N.below.mono HB.out.size)); have HM12 := Lib.hid R; clear N R)
    | (refine blk_store rfl 33 _ _ rfl b12 rfl (mvA mv0) (mvA ⟨4, 5, 0, 0, false⟩) rfl ?_ rfl (mv_one _) sizeMv ?_; exact HM12.out; intro wz U R; have HR0 := Lib.hid (HR0.out.apart U HDHR0b12.out); have HR1 := Lib.hid (HR1.out.apart U HDHR1b12.out); have HR2 := Lib.hid (HR2.out.apart U HDHR2b12.out); have HM7 := Lib.hid (HM7.out.apart U HDHM7b12.out); have HM8 := Lib.hid (HM8.out.apart U HDHM8b12.out); have HM10 := Lib.hid (HM10.out.apart U HDHM10b12.out); have HB := Lib.hid (HB.out.trans (U.below HGb12.out)); have HM12 := Lib.hid R; clear U R)
    | (refine blk_load rfl 33 _ rfl b7 rfl (mvA ⟨4, 7, 0, 0, true⟩) ?_ _ Tryd.underlying33 rfl sizeMv ?_; exact HM7.out)
    | (refine blk_load rfl 33 _ rfl b8 rfl (mvA ⟨4, 7, 0, 0, true⟩) ?_ _ Tryd.underlying33 rfl sizeMv ?_; exact HM8.out)
    | (refine blk_load rfl 33 _ rfl b10 rfl (mvA ⟨4, 0, 0, 0, true⟩) ?_ _ Tryd.underlying33 rfl sizeMv ?_; exact HM10.out)
    | (refine blk_load rfl 33 _ rfl b12 rfl (mvA ⟨4, 5, 0, 0, false⟩) ?_ _ Tryd.underlying33 rfl sizeMv ?_; exact HM12.out)
    | (refine step_mvn rfl _ _ rfl ⟨4, 7, 0, 0, true⟩ ⟨4, 7, 0, 0, true⟩ rfl rfl (fitV_of rfl) (fitV_of rfl) true rfl ?_)
    | (refine step_mvn rfl _ _ rfl ⟨4, 0, 0, 0, true⟩ ⟨4, 0, 0, 0, true⟩ rfl rfl (fitV_of rfl) (fitV_of rfl) true rfl ?_)
    | (refine step_mvn rfl _ _ rfl ⟨4, 5, 0, 0, false⟩ ⟨4, 5, 0, 0, false⟩ rfl rfl (fitV_of rfl) (fitV_of rfl) true rfl ?_))
  have N := New.alloc wz (.cells (#[.string ⟨#[101, 50, 101, 50]⟩, .string ⟨#[101, 50]⟩, .string ⟨#[101, 50, 101, 57]⟩, .string ⟨#[101, 50, 101, 52, 112]⟩, .string ⟨#[110, 64, 102, 51]⟩, .string ⟨#[78, 64, 102, 57]⟩]) 9)
  have R : Blk _ wz.heap.size 9 (#[.string ⟨#[101, 50, 101, 50]⟩, .string ⟨#[101, 50]⟩, .string ⟨#[101, 50, 101, 57]⟩, .string ⟨#[101, 50, 101, 52, 112]⟩, .string ⟨#[110, 64, 102, 51]⟩, .string ⟨#[78, 64, 102, 57]⟩]) := heap_alloc_new wz (.cells (#[.string ⟨#[101, 50, 101, 50]⟩, .string ⟨#[101, 50]⟩, .string ⟨#[101, 50, 101, 57]⟩, .string ⟨#[101, 50, 101, 52, 112]⟩, .string ⟨#[110, 64, 102, 51]⟩, .string ⟨#[78, 64, 102, 57]⟩]) 9)
  generalize wz.alloc (.cells (#[.string ⟨#[101, 50, 101, 50]⟩, .string ⟨#[101, 50]⟩, .string ⟨#[101, 50, 101, 57]⟩, .string ⟨#[101, 50, 101, 52, 112]⟩, .string ⟨#[110, 64, 102, 51]⟩, .string ⟨#[78, 64, 102, 57]⟩]) 9) = wg at N R ⊢
  generalize wz.heap.size = g at N R ⊢
  have HSt := Lib.hid (maStr R)
  have HR0 := Lib.hid (HR0.out.later N.below)
  have HB := Lib.hid (HB.out.trans (N.below.mono HB.out.size))
  clear N R
  go_loopw [15] (fun i wr => ∃ k : Nat, k ≤ 6 ∧ i = .int .i64 (k : Int) ∧ Below w.heap.size w wr ∧ Row wr b1 p0 ∧ StrsM wr g maL) (fun i _ => 6 - (intOf i).toNat)
  case atStart => exact ⟨0, by omega, rfl, HB.out, HR0.out, HSt.out⟩
  case round =>
    obtain ⟨k, hk, rfl, hb1, hr1, hst1⟩ := hrel
    have HB := Lib.hid hb1
    have HR0 := Lib.hid hr1
    have HSt := Lib.hid hst1
    clear hb1 hst1 hr1
    by_cases hk6 : k < 6
    · have lk : (k : Int) < 6 := by omega
      have k0 : (0 : Int) ≤ (k : Int) := by omega
      have HK6 := Lib.hid hk6
      obtain ⟨l, hl, hO, hN⟩ := HL.out k hk6
      have HO := Lib.hid hO
      have HN := Lib.hid hN
      have HLk := Lib.hid hl
      have HE := Lib.hid (show enO p0 none = 5 by show (bif smB p0 then (5 : Int) else 2) = 5; rw [HSm.out]; rfl)
      have HEp := Lib.hid (show pmO none = mv0 from rfl)
      clear hO hN hl hk hk6
      go_wp2_with fail
      refine late_begin 10 (by kernel_rfl) ?_
      refine late_take 0 (by kernel_rfl) (by kernel_rfl) (by kernel_rfl) (by kernel_rfl) (by kernel_rfl) (fun _ _ d _ _ h => by cases d <;> exact h) (fun o ho => ?_)
      simp only [List.getElem?_toArray, List.getElem?_cons_zero, List.getElem?_cons_succ, Option.some.injEq] at ho; subst ho
      refine ⟨_, Or.inl ⟨by kernel_rfl, fun w' hl => Or.inl (run_load _ rfl _ rfl (p0) (HR0.out.later hl))⟩, ?_⟩
      simp only [Act.put, List.setIfInBounds_toArray, List.set_cons_zero, List.set_cons_succ]
      refine late_take 1 (by kernel_rfl) (by kernel_rfl) (by kernel_rfl) (by kernel_rfl) (by kernel_rfl) (fun _ _ d _ _ h => by cases d <;> exact h) (fun o ho => ?_)
      simp only [List.getElem?_toArray, List.getElem?_cons_zero, List.getElem?_cons_succ, Option.some.injEq] at ho; subst ho
      apply Exists.intro
      refine ⟨Or.inl ⟨by kernel_rfl, fun w' hl => Or.inl ?_⟩, ?_⟩
      · (go_simp; try with_reducible rfl)
      simp only [Act.put, List.setIfInBounds_toArray, List.set_cons_zero, List.set_cons_succ]
      refine late_take 2 (by kernel_rfl) (by kernel_rfl) (by kernel_rfl) (by kernel_rfl) (by kernel_rfl) (fun _ _ d _ _ h => by cases d <;> exact h) (fun o ho => ?_)
      simp only [List.getElem?_toArray, List.getElem?_cons_zero, List.getElem?_cons_succ, Option.some.injEq] at ho; subst ho
      apply Exists.intro
      refine ⟨Or.inl ⟨by kernel_rfl, fun w' hl => Or.inl ?_⟩, ?_⟩
      · (go_simp; try with_reducible rfl)
      simp only [Act.put, List.setIfInBounds_toArray, List.set_cons_zero, List.set_cons_succ]
      refine late_take 3 (by kernel_rfl) (by kernel_rfl) (by kernel_rfl) (by kernel_rfl) (by kernel_rfl) (fun _ _ d _ _ h => by cases d <;> exact h) (fun o ho => ?_)
      simp only [List.getElem?_toArray, List.getElem?_cons_zero, List.getElem?_cons_succ, Option.some.injEq] at ho; subst ho
      apply Exists.intro
      refine ⟨Or.inl ⟨by kernel_rfl, fun w' hl => Or.inl ?_⟩, ?_⟩
      · (go_simp; try with_reducible rfl)
      simp only [Act.put, List.setIfInBounds_toArray, List.set_cons_zero, List.set_cons_succ]
      refine late_take 4 (by kernel_rfl) (by kernel_rfl) (by kernel_rfl) (by kernel_rfl) (by kernel_rfl) (fun _ _ d _ _ h => by cases d <;> exact h) (fun o ho => ?_)
      simp only [List.getElem?_toArray, List.getElem?_cons_zero, List.getElem?_cons_succ, Option.some.injEq] at ho; subst ho
      refine ⟨.string (bz l), Or.inl ⟨by kernel_rfl, fun w' hl => Or.inl (run_get 9 _ rfl g k rfl Tryd.underlying9 rfl (.string (bz l)) ((strsM_on HSt.out hl) k l HLk.out))⟩, ?_⟩
      simp only [Act.put, List.setIfInBounds_toArray, List.set_cons_zero, List.set_cons_succ]
      refine late_fork 5 9 (by kernel_rfl) (by kernel_rfl) (by kernel_rfl) (fun o ho => ?_) (fun o ho => ?_)
      · simp only [List.getElem?_toArray, List.getElem?_cons_zero, List.getElem?_cons_succ, Option.some.injEq] at ho; subst ho
        refine ⟨by kernel_rfl, fun wn hl K hK => ?_⟩
        have HR0 := Lib.hid (HR0.out.later hl); have HSt := Lib.hid (HSt.out.later hl); have HB := Lib.hid (below_on HB.out hl); clear hl
        refine wp_enter _ _ (by go_simp; exact ⟨rfl, rfl⟩) ?_
        refine (mvParse_any p0 l _ HN.out HF0.out (HG.out.on HB.out) (HMx.out.on HB.out)).mono ?_; rintro e wm ⟨rfl, hb⟩; refine ⟨_, rfl, ?_⟩
        rw [HO.out, HE.out, HEp.out]
        refine hK.out _ _ hb ?_
        have HR0 := Lib.hid (HR0.out.later hb); have HSt := Lib.hid (HSt.out.later hb); have HB := Lib.hid (below_on HB.out hb); clear hb
        clear hK K
        simp only [Act.put, List.setIfInBounds_toArray, List.set_cons_zero, List.set_cons_succ]
        refine late_take 6 (by kernel_rfl) (by kernel_rfl) (by kernel_rfl) (by kernel_rfl) (by kernel_rfl) (fun _ _ d _ _ h => by cases d <;> exact h) (fun o ho => ?_)
        simp only [List.getElem?_toArray, List.getElem?_cons_zero, List.getElem?_cons_succ, Option.some.injEq] at ho; subst ho
        apply Exists.intro
        refine ⟨Or.inl ⟨by kernel_rfl, fun w' hl => Or.inl ?_⟩, ?_⟩
        · (go_simp; try with_reducible rfl)
        simp only [Act.put, List.setIfInBounds_toArray, List.set_cons_zero, List.set_cons_succ]
        refine late_take 7 (by kernel_rfl) (by kernel_rfl) (by kernel_rfl) (by kernel_rfl) (by kernel_rfl) (fun _ _ d _ _ h => by cases d <;> exact h) (fun o ho => ?_)
        simp only [List.getElem?_toArray, List.getElem?_cons_zero, List.getElem?_cons_succ, Option.some.injEq] at ho; subst ho
        apply Exists.intro
        refine ⟨Or.inl ⟨by kernel_rfl, fun w' hl => Or.inl ?_⟩, ?_⟩
        · (go_simp; try with_reducible rfl)
        simp only [Act.put, List.setIfInBounds_toArray, List.set_cons_zero, List.set_cons_succ]
        refine late_fork 8 9 (by kernel_rfl) (by kernel_rfl) (by kernel_rfl) (fun o ho => ?_) (fun o ho => ?_)
        · simp only [List.getElem?_toArray, List.getElem?_cons_zero, List.getElem?_cons_succ, Option.some.injEq] at ho; subst ho
          refine ⟨by kernel_rfl, fun wn hl K hK => ?_⟩
          have HR0 := Lib.hid (HR0.out.later hl); have HSt := Lib.hid (HSt.out.later hl); have HB := Lib.hid (below_on HB.out hl); clear hl
          refine wp_value (by go_simp; try with_reducible rfl) ?_
          refine hK.out _ _ (Later.refl _) ?_
          clear hK K
          simp only [Act.put, List.setIfInBounds_toArray, List.set_cons_zero, List.set_cons_succ]
          refine late_one 9 (by kernel_rfl) (by kernel_rfl) (fun o ho => ?_)
          simp only [List.getElem?_toArray, List.getElem?_cons_zero, List.getElem?_cons_succ, Option.some.injEq] at ho; subst ho
          refine ⟨by kernel_rfl, fun wn hl K hK => ?_⟩
          have HR0 := Lib.hid (HR0.out.later hl); have HSt := Lib.hid (HSt.out.later hl); have HB := Lib.hid (below_on HB.out hl); clear hl
          refine late_blka 33 rfl (mvA mv0) zeroMv ?_; intro b wm N R
          have HGb := Lib.hid (show w.heap.size ≤ b by rw [N.at_]; exact HB.out.size); have HD0 := Lib.hid (show b1 ≠ b by rw [N.at_]; exact Nat.ne_of_lt HR0.out.lt); have HDs := Lib.hid (show g ≠ b by rw [N.at_]; exact Nat.ne_of_lt (World.block_lt_of_cell? _ _ (HSt.out 0 _ rfl)))
          have hb := N.below
          have HRn := Lib.hid R
          clear N R
          refine hK.out _ _ hb ?_
          have HR0 := Lib.hid (HR0.out.later hb); have HSt := Lib.hid (HSt.out.later hb); have HB := Lib.hid (below_on HB.out hb); clear hb
          have HM := HRn; clear HRn
          clear hK K
          simp only [Act.put, List.setIfInBounds_toArray, List.set_cons_zero, List.set_cons_succ]
          refine late_then 10 (by kernel_rfl) (by kernel_rfl) (fun o ho => ?_)
          simp only [List.getElem?_toArray, List.getElem?_cons_zero, List.getElem?_cons_succ, Option.some.injEq] at ho; subst ho
          refine ⟨by kernel_rfl, fun wn hl K hK => ?_⟩
          have HR0 := Lib.hid (HR0.out.later hl); have HSt := Lib.hid (HSt.out.later hl); have HM := Lib.hid (HM.out.later hl); have HB := Lib.hid (below_on HB.out hl); clear hl
          refine late_blk 33 _ _ rfl b rfl (mvA mv0) (mvA mv0) rfl HM.out rfl (mv_one _) sizeMv ?_; intro wm U R
          have HR0 := Lib.hid (HR0.out.apart U HD0.out); have HSt := Lib.hid (strsM_upd HSt.out U HDs.out); have HM := Lib.hid R; have HB := Lib.hid (HB.out.trans (U.below HGb.out)); clear U R
          refine hK.out _ _ ?_
          clear hK K
          simp only [Act.put, List.setIfInBounds_toArray, List.set_cons_zero, List.set_cons_succ]
          refine any_one 11 (by kernel_rfl) (by kernel_rfl) (fun o ho => ?_)
          simp only [List.getElem?_toArray, List.getElem?_cons_zero, List.getElem?_cons_succ, Option.some.injEq] at ho; subst ho
          refine ⟨by kernel_rfl, fun K hK => ?_⟩
          refine wp_value (by go_simp; try with_reducible rfl) ?_
          refine hK.out _ _ ?_
          clear hK K
          simp only [Act.put, List.setIfInBounds_toArray, List.set_cons_zero, List.set_cons_succ]
          refine any_end (by kernel_rfl) ?_
          go_wp2_with fail
          go_roundw
          case rel => exact ⟨k + 1, by have := HK6.out; omega, by go_num, HB.out, HR0.out, HSt.out⟩
          case measure => simp [intOf]; have := HK6.out; omega
        · simp only [List.getElem?_toArray, List.getElem?_cons_zero, List.getElem?_cons_succ, Option.some.injEq] at ho; subst ho
          refine ⟨by kernel_rfl, fun wn hl K hK => ?_⟩
          have HR0 := Lib.hid (HR0.out.later hl); have HSt := Lib.hid (HSt.out.later hl); have HB := Lib.hid (below_on HB.out hl); clear hl
          refine late_blka 33 rfl (mvA mv0) zeroMv ?_; intro b wm N R
          have HGb := Lib.hid (show w.heap.size ≤ b by rw [N.at_]; exact HB.out.size); have HD0 := Lib.hid (show b1 ≠ b by rw [N.at_]; exact Nat.ne_of_lt HR0.out.lt); have HDs := Lib.hid (show g ≠ b by rw [N.at_]; exact Nat.ne_of_lt (World.block_lt_of_cell? _ _ (HSt.out 0 _ rfl)))
          have hb := N.below
          have HRn := Lib.hid R
          clear N R
          refine hK.out _ _ hb ?_
          have HR0 := Lib.hid (HR0.out.later hb); have HSt := Lib.hid (HSt.out.later hb); have HB := Lib.hid (below_on HB.out hb); clear hb
          have HM := HRn; clear HRn
          clear hK K
          simp only [Act.put, List.setIfInBounds_toArray, List.set_cons_zero, List.set_cons_succ]
          refine late_forkL 8 10 (by kernel_rfl) (by kernel_rfl) (by kernel_rfl) (fun o ho => ?_) (fun o ho => ?_)
          · simp only [List.getElem?_toArray, List.getElem?_cons_zero, List.getElem?_cons_succ, Option.some.injEq] at ho; subst ho
            refine ⟨by kernel_rfl, fun wn hl K hK => ?_⟩
            have HR0 := Lib.hid (HR0.out.later hl); have HSt := Lib.hid (HSt.out.later hl); have HM := Lib.hid (HM.out.later hl); have HB := Lib.hid (below_on HB.out hl); clear hl
            refine wp_value (by go_simp; try with_reducible rfl) ?_
            refine hK.out _ _ (Later.refl _) ?_
            clear hK K
            simp only [Act.put, List.setIfInBounds_toArray, List.set_cons_zero, List.set_cons_succ]
            refine late_then 10 (by kernel_rfl) (by kernel_rfl) (fun o ho => ?_)
            simp only [List.getElem?_toArray, List.getElem?_cons_zero, List.getElem?_cons_succ, Option.some.injEq] at ho; subst ho
            refine ⟨by kernel_rfl, fun wn hl K hK => ?_⟩
            have HR0 := Lib.hid (HR0.out.later hl); have HSt := Lib.hid (HSt.out.later hl); have HM := Lib.hid (HM.out.later hl); have HB := Lib.hid (below_on HB.out hl); clear hl
            refine late_blk 33 _ _ rfl b rfl (mvA mv0) (mvA mv0) rfl HM.out rfl (mv_one _) sizeMv ?_; intro wm U R
            have HR0 := Lib.hid (HR0.out.apart U HD0.out); have HSt := Lib.hid (strsM_upd HSt.out U HDs.out); have HM := Lib.hid R; have HB := Lib.hid (HB.out.trans (U.below HGb.out)); clear U R
            refine hK.out _ _ ?_
            clear hK K
            simp only [Act.put, List.setIfInBounds_toArray, List.set_cons_zero, List.set_cons_succ]
            refine any_one 11 (by kernel_rfl) (by kernel_rfl) (fun o ho => ?_)
            simp only [List.getElem?_toArray, List.getElem?_cons_zero, List.getElem?_cons_succ, Option.some.injEq] at ho; subst ho
            refine ⟨by kernel_rfl, fun K hK => ?_⟩
            refine wp_value (by go_simp; try with_reducible rfl) ?_
            refine hK.out _ _ ?_
            clear hK K
            simp only [Act.put, List.setIfInBounds_toArray, List.set_cons_zero, List.set_cons_succ]
            refine any_end (by kernel_rfl) ?_
            go_wp2_with fail
            go_roundw
            case rel => exact ⟨k + 1, by have := HK6.out; omega, by go_num, HB.out, HR0.out, HSt.out⟩
            case measure => simp [intOf]; have := HK6.out; omega
          · simp only [List.getElem?_toArray, List.getElem?_cons_zero, List.getElem?_cons_succ, Option.some.injEq] at ho; subst ho
            refine ⟨by kernel_rfl, fun wn hl K hK => ?_⟩
            have HR0 := Lib.hid (HR0.out.later hl); have HSt := Lib.hid (HSt.out.later hl); have HM := Lib.hid (HM.out.later hl); have HB := Lib.hid (below_on HB.out hl); clear hl
            refine late_blk 33 _ _ rfl b rfl (mvA mv0) (mvA mv0) rfl HM.out rfl (mv_one _) sizeMv ?_; intro wm U R
            have HR0 := Lib.hid (HR0.out.apart U HD0.out); have HSt := Lib.hid (strsM_upd HSt.out U HDs.out); have HM := Lib.hid R; have HB := Lib.hid (HB.out.trans (U.below HGb.out)); clear U R
            refine hK.out _ _ ?_
            clear hK K
            simp only [Act.put, List.setIfInBounds_toArray, List.set_cons_zero, List.set_cons_succ]
            refine any_one 8 (by kernel_rfl) (by kernel_rfl) (fun o ho => ?_)
            simp only [List.getElem?_toArray, List.getElem?_cons_zero, List.getElem?_cons_succ, Option.some.injEq] at ho; subst ho
            refine ⟨by kernel_rfl, fun K hK => ?_⟩
            refine wp_value (by go_simp; try with_reducible rfl) ?_
            refine hK.out _ _ ?_
            clear hK K
            simp only [Act.put, List.setIfInBounds_toArray, List.set_cons_zero, List.set_cons_succ]
            refine any_one 11 (by kernel_rfl) (by kernel_rfl) (fun o ho => ?_)
            simp only [List.getElem?_toArray, List.getElem?_cons_zero, List.getElem?_cons_succ, Option.some.injEq] at ho; subst ho
            refine ⟨by kernel_rfl, fun K hK => ?_⟩
            refine wp_value (by go_simp; try with_reducible rfl) ?_
            refine hK.out _ _ ?_
            clear hK K
            simp only [Act.put, List.setIfInBounds_toArray, List.set_cons_zero, List.set_cons_succ]
            refine any_end (by kernel_rfl) ?_
            go_wp2_with fail
            go_roundw
            case rel => exact ⟨k + 1, by have := HK6.out; omega, by go_num, HB.out, HR0.out, HSt.out⟩
            case measure => simp [intOf]; have := HK6.out; omega
      · simp only [List.getElem?_toArray, List.getElem?_cons_zero, List.getElem?_cons_succ, Option.some.injEq] at ho; subst ho
        refine ⟨by kernel_rfl, fun wn hl K hK => ?_⟩
        have HR0 := Lib.hid (HR0.out.later hl); have HSt := Lib.hid (HSt.out.later hl); have HB := Lib.hid (below_on HB.out hl); clear hl
        refine late_blka 33 rfl (mvA mv0) zeroMv ?_; intro b wm N R
        have HGb := Lib.hid (show w.heap.size ≤ b by rw [N.at_]; exact HB.out.size); have HD0 := Lib.hid (show b1 ≠ b by rw [N.at_]; exact Nat.ne_of_lt HR0.out.lt); have HDs := Lib.hid (show g ≠ b by rw [N.at_]; exact Nat.ne_of_lt (World.block_lt_of_cell? _ _ (HSt.out 0 _ rfl)))
        have hb := N.below
        have HRn := Lib.hid R
        clear N R
        refine hK.out _ _ hb ?_
        have HR0 := Lib.hid (HR0.out.later hb); have HSt := Lib.hid (HSt.out.later hb); have HB := Lib.hid (below_on HB.out hb); clear hb
        have HM := HRn; clear HRn
        clear hK K
        simp only [Act.put, List.setIfInBounds_toArray, List.set_cons_zero, List.set_cons_succ]
        refine late_one 5 (by kernel_rfl) (by kernel_rfl) (fun o ho => ?_)
        simp only [List.getElem?_toArray, List.getElem?_cons_zero, List.getElem?_cons_succ, Option.some.injEq] at ho; subst ho
        refine ⟨by kernel_rfl, fun wn hl K hK => ?_⟩
        have HR0 := Lib.hid (HR0.out.later hl); have HSt := Lib.hid (HSt.out.later hl); have HM := Lib.hid (HM.out.later hl); have HB := Lib.hid (below_on HB.out hl); clear hl
        refine wp_enter _ _ (by go_simp; exact ⟨rfl, rfl⟩) ?_
        refine (mvParse_any p0 l _ HN.out HF0.out (HG.out.on HB.out) (HMx.out.on HB.out)).mono ?_; rintro e wm ⟨rfl, hb⟩; refine ⟨_, rfl, ?_⟩
        rw [HO.out, HE.out, HEp.out]
        refine hK.out _ _ hb ?_
        have HR0 := Lib.hid (HR0.out.later hb); have HSt := Lib.hid (HSt.out.later hb); have HM := Lib.hid (HM.out.later hb); have HB := Lib.hid (below_on HB.out hb); clear hb
        clear hK K
        simp only [Act.put, List.setIfInBounds_toArray, List.set_cons_zero, List.set_cons_succ]
        refine late_take 6 (by kernel_rfl) (by kernel_rfl) (by kernel_rfl) (by kernel_rfl) (by kernel_rfl) (fun _ _ d _ _ h => by cases d <;> exact h) (fun o ho => ?_)
        simp only [List.getElem?_toArray, List.getElem?_cons_zero, List.getElem?_cons_succ, Option.some.injEq] at ho; subst ho
        apply Exists.intro
        refine ⟨Or.inl ⟨by kernel_rfl, fun w' hl => Or.inl ?_⟩, ?_⟩
        · (go_simp; try with_reducible rfl)
        simp only [Act.put, List.setIfInBounds_toArray, List.set_cons_zero, List.set_cons_succ]
        refine late_take 7 (by kernel_rfl) (by kernel_rfl) (by kernel_rfl) (by kernel_rfl) (by kernel_rfl) (fun _ _ d _ _ h => by cases d <;> exact h) (fun o ho => ?_)
        simp only [List.getElem?_toArray, List.getElem?_cons_zero, List.getElem?_cons_succ, Option.some.injEq] at ho; subst ho
        apply Exists.intro
        refine ⟨Or.inl ⟨by kernel_rfl, fun w' hl => Or.inl ?_⟩, ?_⟩
        · (go_simp; try with_reducible rfl)
        simp only [Act.put, List.setIfInBounds_toArray, List.set_cons_zero, List.set_cons_succ]
        refine late_forkL 8 10 (by kernel_rfl) (by kernel_rfl) (by kernel_rfl) (fun o ho => ?_) (fun o ho => ?_)
        · simp only [List.getElem?_toArray, List.getElem?_cons_zero, List.getElem?_cons_succ, Option.some.injEq] at ho; subst ho
          refine ⟨by kernel_rfl, fun wn hl K hK => ?_⟩
          have HR0 := Lib.hid (HR0.out.later hl); have HSt := Lib.hid (HSt.out.later hl); have HM := Lib.hid (HM.out.later hl); have HB := Lib.hid (below_on HB.out hl); clear hl
          refine wp_value (by go_simp; try with_reducible rfl) ?_
          refine hK.out _ _ (Later.refl _) ?_
          clear hK K
          simp only [Act.put, List.setIfInBounds_toArray, List.set_cons_zero, List.set_cons_succ]
          refine late_then 10 (by kernel_rfl) (by kernel_rfl) (fun o ho => ?_)
          simp only [List.getElem?_toArray, List.getElem?_cons_zero, List.getElem?_cons_succ, Option.some.injEq] at ho; subst ho
          refine ⟨by kernel_rfl, fun wn hl K hK => ?_⟩
          have HR0 := Lib.hid (HR0.out.later hl); have HSt := Lib.hid (HSt.out.later hl); have HM := Lib.hid (HM.out.later hl); have HB := Lib.hid (below_on HB.out hl); clear hl
          refine late_blk 33 _ _ rfl b rfl (mvA mv0) (mvA mv0) rfl HM.out rfl (mv_one _) sizeMv ?_; intro wm U R
          have HR0 := Lib.hid (HR0.out.apart U HD0.out); have HSt := Lib.hid (strsM_upd HSt.out U HDs.out); have HM := Lib.hid R; have HB := Lib.hid (HB.out.trans (U.below HGb.out)); clear U R
          refine hK.out _ _ ?_
          clear hK K
          simp only [Act.put, List.setIfInBounds_toArray, List.set_cons_zero, List.set_cons_succ]
          refine any_one 11 (by kernel_rfl) (by kernel_rfl) (fun o ho => ?_)
          simp only [List.getElem?_toArray, List.getElem?_cons_zero, List.getElem?_cons_succ, Option.some.injEq] at ho; subst ho
          refine ⟨by kernel_rfl, fun K hK => ?_⟩
          refine wp_value (by go_simp; try with_reducible rfl) ?_
          refine hK.out _ _ ?_
          clear hK K
          simp only [Act.put, List.setIfInBounds_toArray, List.set_cons_zero, List.set_cons_succ]
          refine any_end (by kernel_rfl) ?_
          go_wp2_with fail
          go_roundw
          case rel => exact ⟨k + 1, by have := HK6.out; omega, by go_num, HB.out, HR0.out, HSt.out⟩
          case measure => simp [intOf]; have := HK6.out; omega
        · simp only [List.getElem?_toArray, List.getElem?_cons_zero, List.getElem?_cons_succ, Option.some.injEq] at ho; subst ho
          refine ⟨by kernel_rfl, fun wn hl K hK => ?_⟩
          have HR0 := Lib.hid (HR0.out.later hl); have HSt := Lib.hid (HSt.out.later hl); have HM := Lib.hid (HM.out.later hl); have HB := Lib.hid (below_on HB.out hl); clear hl
          refine late_blk 33 _ _ rfl b rfl (mvA mv0) (mvA mv0) rfl HM.out rfl (mv_one _) sizeMv ?_; intro wm U R
          have HR0 := Lib.hid (HR0.out.apart U HD0.out); have HSt := Lib.hid (strsM_upd HSt.out U HDs.out); have HM := Lib.hid R; have HB := Lib.hid (HB.out.trans (U.below HGb.out)); clear U R
          refine hK.out _ _ ?_
          clear hK K
          simp only [Act.put, List.setIfInBounds_toArray, List.set_cons_zero, List.set_cons_succ]
          refine any_one 8 (by kernel_rfl) (by kernel_rfl) (fun o ho => ?_)
          simp only [List.getElem?_toArray, List.getElem?_cons_zero, List.getElem?_cons_succ, Option.some.injEq] at ho; subst ho
          refine ⟨by kernel_rfl, fun K hK => ?_⟩
          refine wp_value (by go_simp; try with_reducible rfl) ?_
          refine hK.out _ _ ?_
          clear hK K
          simp only [Act.put, List.setIfInBounds_toArray, List.set_cons_zero, List.set_cons_succ]
          refine any_one 11 (by kernel_rfl) (by kernel_rfl) (fun o ho => ?_)
          simp only [List.getElem?_toArray, List.getElem?_cons_zero, List.getElem?_cons_succ, Option.some.injEq] at ho; subst ho
          refine ⟨by kernel_rfl, fun K hK => ?_⟩
          refine wp_value (by go_simp; try with_reducible rfl) ?_
          refine hK.out _ _ ?_
          clear hK K
          simp only [Act.put, List.setIfInBounds_toArray, List.set_cons_zero, List.set_cons_succ]
          refine any_end (by kernel_rfl) ?_
          go_wp2_with fail
          go_roundw
          case rel => exact ⟨k + 1, by have := HK6.out; omega, by go_num, HB.out, HR0.out, HSt.out⟩
          case measure => simp [intOf]; have := HK6.out; omega
    · obtain rfl : k = 6 := by omega
      go_wp2_with fail
      exact bodyPost_ret (results_tmp rfl _ _ _) rfl ⟨rfl, HB.out⟩
end Go.Proofs.YtgfgohlolnlcjaaDoor
