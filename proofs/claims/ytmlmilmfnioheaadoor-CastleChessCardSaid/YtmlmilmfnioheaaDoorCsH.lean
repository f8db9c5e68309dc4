/-
  Layer 14's law's awake.
-/
import Derived.Test.YtmlmilmfnioheaaDoorCsG
namespace Go.Proofs.YtmlmilmfnioheaaDoor
open Go.RowKit Go.Shelf
set_option linter.unusedVariables false
set_option linter.unusedSimpArgs false
attribute [local go_sem] Oper.semAt_some

theorem bothK {p : Nat → Int} {a h : Bool} (hb : bothV (camL p) a h = true) (w : World) (hp : CsR p) (hT : CsT w) : Calls Tryd.prog 19 #[.agg (posA p), .bool a, .bool h] w (BoL true w) := hb ▸ cs_both p a h w hp hT
theorem withK {p q : Nat → Int} {s : Nat} {x : Int} (e : upd p (1 + s) x = q) (hs : s < 64) (w : World) : Calls Tryd.prog 24 #[.agg (posA p), .int .i64 (s : Int), .int .u8 x] w (PosL q w) := e ▸ cs_with p s hs x w
theorem firstK {q : Nat → Int} (e : fpC = q) (w : World) : Calls Tryd.prog 16 #[] w (PosL q w) := e ▸ cs_first w
set_option maxRecDepth 100000 in
set_option maxHeartbeats 4000000 in
theorem cs_awake (w : World) (hT : CsT w) : Calls Tryd.prog 11 #[] w (BoL true w) := by
  have HT := Lib.hid hT
  clear hT
  have HB := Lib.hid (Below.refl w.heap.size w)
  obtain ⟨Q0, HQ0⟩ : ∃ Q0, Hid (fpC = Q0) := ⟨_, Lib.hid rfl⟩
  have HF0 := Lib.hid (show CsR Q0 by rw [← HQ0.out]; exact fpC_fit)
  have HK0 := Lib.hid (show bothV (camL Q0) true true = true by rw [← HQ0.out]; exact cs_k1)
  obtain ⟨Q1, HQ1⟩ : ∃ Q, Hid (upd Q0 (1 + 37) 12 = Q) := ⟨_, Lib.hid rfl⟩
  have HF1 := Lib.hid (show CsR Q1 by rw [← HQ1.out]; exact HF0.out.put (by decide) ⟨by decide, by decide⟩)
  have HK1 := Lib.hid (show bothV (camL Q1) true false = true by rw [← HQ1.out, ← HQ0.out]; exact cs_k2)
  obtain ⟨Q2, HQ2⟩ : ∃ Q, Hid (upd Q0 (1 + 33) 12 = Q) := ⟨_, Lib.hid rfl⟩
  have HF2 := Lib.hid (show CsR Q2 by rw [← HQ2.out]; exact HF0.out.put (by decide) ⟨by decide, by decide⟩)
  have HK2 := Lib.hid (show bothV (camL Q2) true true = true by rw [← HQ2.out, ← HQ0.out]; exact cs_k3)
  obtain ⟨Q3, HQ3⟩ : ∃ Q, Hid (upd Q0 (1 + 36) 12 = Q) := ⟨_, Lib.hid rfl⟩
  have HF3 := Lib.hid (show CsR Q3 by rw [← HQ3.out]; exact HF0.out.put (by decide) ⟨by decide, by decide⟩)
  have HK3 := Lib.hid (show bothV (camL Q3) false false = true by rw [← HQ3.out, ← HQ0.out]; exact cs_k4)
  obtain ⟨Q4, HQ4⟩ : ∃ Q, Hid (upd Q0 (1 + 1) 2 = Q) := ⟨_, Lib.hid rfl⟩
  have HF4 := Lib.hid (show CsR Q4 by rw [← HQ4.out]; exact HF0.out.put (by decide) ⟨by decide, by decide⟩)
  have HK4 := Lib.hid (show bothV (camL Q4) false true = true by rw [← HQ4.out, ← HQ0.out]; exact cs_k5)
  go_enter Tryd.func11, Tryd.ntmps11
  go_wp2_with (first
      | (go_at_call 16; refine (firstK HQ0.out _).mono ?_; rintro e w3 ⟨rfl, hb⟩; have HB := Lib.hid (below_on HB.out hb); clear hb)
      | (guard_target = Go.wpList _ _ _ ((⟨some 1, .alloc _, _, _, _, _⟩ : Go.Oper) :: _) _ _; refine step_alloc (op := ⟨some 1, _, _, _, _, _⟩) rfl rfl ?_; intro b1 wn N R; have HG1 := Lib.hid (show w.heap.size ≤ b1 by have := HB.out.size; have := N.at_; omega); have HR1 := Lib.hid R; have HB := Lib.hid (below_on HB.out N.below); clear N R)
      | (guard_target = Go.wpList _ _ _ ((⟨none, .store _ (.tmp 1) _, _, _, _, _⟩ : Go.Oper) :: _) _ _; refine step_store (op := ⟨none, .store _ (.tmp 1) _, _, _, _, _⟩) rfl _ _ rfl b1 rfl zeroP Q0 rfl HR1.out ?_; intro wn U R; have HR1 := Lib.hid R; have HB := Lib.hid (HB.out.trans (U.below HG1.out)); clear U R)
      | (guard_target = Go.wpList _ _ _ ((⟨some _, .load _ (.tmp 1), _, _, _, _⟩ : Go.Oper) :: _) _ _; refine step_load rfl _ rfl b1 rfl Q0 HR1.out ?_)
      | (go_at_call 24; guard_target = Go.Calls _ _ #[_, Go.Value.int _ 37, _] _ _; refine (withK (p := Q0) (s := 37) (x := 12) HQ1.out (by decide) _).mono ?_; rintro e w3 ⟨rfl, hb⟩; have HR1 := Lib.hid (HR1.out.later hb); have HB := Lib.hid (below_on HB.out hb); clear hb)
      | (go_at_call 24; guard_target = Go.Calls _ _ #[_, Go.Value.int _ 33, _] _ _; refine (withK (p := Q0) (s := 33) (x := 12) HQ2.out (by decide) _).mono ?_; rintro e w3 ⟨rfl, hb⟩; have HR1 := Lib.hid (HR1.out.later hb); have HB := Lib.hid (below_on HB.out hb); clear hb)
      | (go_at_call 24; guard_target = Go.Calls _ _ #[_, Go.Value.int _ 36, _] _ _; refine (withK (p := Q0) (s := 36) (x := 12) HQ3.out (by decide) _).mono ?_; rintro e w3 ⟨rfl, hb⟩; have HR1 := Lib.hid (HR1.out.later hb); have HB := Lib.hid (below_on HB.out hb); clear hb)
      | (go_at_call 24; guard_target = Go.Calls _ _ #[_, Go.Value.int _ 1, _] _ _; refine (withK (p := Q0) (s := 1) (x := 2) HQ4.out (by decide) _).mono ?_; rintro e w3 ⟨rfl, hb⟩; have HR1 := Lib.hid (HR1.out.later hb); have HB := Lib.hid (below_on HB.out hb); clear hb)
      | (go_at_call 19; guard_target = Go.Calls _ _ #[Go.Value.agg (posA Q0), _, _] _ _; refine (bothK HK0.out _ HF0.out (HT.out.on HB.out)).mono ?_; rintro e w3 ⟨rfl, hb⟩; have HR1 := Lib.hid (HR1.out.later hb); have HB := Lib.hid (below_on HB.out hb); clear hb)
      | (go_at_call 19; guard_target = Go.Calls _ _ #[Go.Value.agg (posA Q1), _, _] _ _; refine (bothK HK1.out _ HF1.out (HT.out.on HB.out)).mono ?_; rintro e w3 ⟨rfl, hb⟩; have HR1 := Lib.hid (HR1.out.later hb); have HB := Lib.hid (below_on HB.out hb); clear hb)
      | (go_at_call 19; guard_target = Go.Calls _ _ #[Go.Value.agg (posA Q2), _, _] _ _; refine (bothK HK2.out _ HF2.out (HT.out.on HB.out)).mono ?_; rintro e w3 ⟨rfl, hb⟩; have HR1 := Lib.hid (HR1.out.later hb); have HB := Lib.hid (below_on HB.out hb); clear hb)
      | (go_at_call 19; guard_target = Go.Calls _ _ #[Go.Value.agg (posA Q3), _, _] _ _; refine (bothK HK3.out _ HF3.out (HT.out.on HB.out)).mono ?_; rintro e w3 ⟨rfl, hb⟩; have HR1 := Lib.hid (HR1.out.later hb); have HB := Lib.hid (below_on HB.out hb); clear hb)
      | (go_at_call 19; guard_target = Go.Calls _ _ #[Go.Value.agg (posA Q4), _, _] _ _; refine (bothK HK4.out _ HF4.out (HT.out.on HB.out)).mono ?_; rintro e w3 ⟨rfl, hb⟩; have HR1 := Lib.hid (HR1.out.later hb); have HB := Lib.hid (below_on HB.out hb); clear hb))
  go_ret
  exact ⟨rfl, HB.out⟩
end Go.Proofs.YtmlmilmfnioheaaDoor
