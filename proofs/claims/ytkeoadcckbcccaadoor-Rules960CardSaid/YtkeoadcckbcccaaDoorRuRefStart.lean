/-
  Contract of the document's Start.
-/
import Derived.Test.YtkeoadcckbcccaaDoorRuRef960
import Derived.Test.YtkeoadcckbcccaaDoorRuProm
namespace Go.Proofs.YtkeoadcckbcccaaDoor
open Go.RowKit
set_option linter.unusedVariables false
set_option linter.unusedSimpArgs false
def rowsH : List ByteArray := [⟨#[114, 110, 98, 113, 107, 98, 110, 114]⟩, ⟨#[112, 112, 112, 112, 112, 112, 112, 112]⟩, ⟨#[46, 46, 46, 46, 46, 46, 46, 46]⟩, ⟨#[46, 80, 80, 46, 46, 80, 80, 46]⟩, ⟨#[80, 80, 80, 80, 80, 80, 80, 80]⟩, ⟨#[80, 80, 80, 80, 80, 80, 80, 80]⟩, ⟨#[80, 80, 80, 80, 80, 80, 80, 80]⟩, ⟨#[80, 80, 80, 80, 80, 80, 80, 80]⟩]
def rowsR : List ByteArray := [⟨#[]⟩, ⟨#[]⟩, ⟨#[]⟩, ⟨#[]⟩, ⟨#[]⟩, ⟨#[]⟩, ⟨#[107, 114, 98, 110, 78, 66, 82, 75]⟩, ⟨#[113, 114, 98, 110, 78, 66, 82, 81]⟩]
def rowsC : List ByteArray := [⟨#[114, 110, 98, 113, 107, 98, 110, 114]⟩, ⟨#[112, 112, 112, 112, 112, 112, 112, 112]⟩, ⟨#[]⟩, ⟨#[]⟩, ⟨#[]⟩, ⟨#[]⟩, ⟨#[80, 80, 80, 80, 80, 80, 80, 80]⟩, ⟨#[82, 78, 66, 81, 75, 66, 78, 82]⟩]
theorem blk_new (w : World) (T : TypeId) (cs : Array Value) : Blk (w.alloc (.cells cs T)) w.heap.size T cs := heap_alloc_new w _
theorem blk_eq {w : World} {T : TypeId} {cs ds : Array Value} (h : cs = ds) : Blk (w.alloc (.cells cs T)) w.heap.size T ds := h ▸ heap_alloc_new w _
theorem rowsH_size : ∀ i, i < 8 → (rowsH.getD i ⟨#[]⟩).size ≤ 8 := fun i hi => by
  have key : ∀ i : Fin 8, (rowsH.getD i.val ⟨#[]⟩).size ≤ 8 := by decide +kernel
  exact key ⟨i, hi⟩
theorem rowsR_size : ∀ i, i < 8 → (rowsR.getD i ⟨#[]⟩).size ≤ 8 := fun i hi => by
  have key : ∀ i : Fin 8, (rowsR.getD i.val ⟨#[]⟩).size ≤ 8 := by decide +kernel
  exact key ⟨i, hi⟩
theorem rowsC_size : ∀ i, i < 8 → (rowsC.getD i ⟨#[]⟩).size ≤ 8 := fun i hi => by
  have key : ∀ i : Fin 8, (rowsC.getD i.val ⟨#[]⟩).size ≤ 8 := by decide +kernel
  exact key ⟨i, hi⟩
/-- The document's first position of a variant. -/
def rstP (v : Nat) : Nat → Int := if v = 7 then rookP (ofP 7 rowsH) 81 7 0 else if v = 8 then ofP 8 rowsR else bif casB v then rookP (rookP (ofP v rowsC) 79 7 0) 81 7 0 else ofP v rowsC
theorem rst_7 : rstP 7 = rookP (ofP 7 rowsH) 81 7 0 := rfl
theorem rst_8 : rstP 8 = ofP 8 rowsR := rfl
theorem rst_of {v : Nat} (h7 : v ≠ 7) (h8 : v ≠ 8) : rstP v = bif casB v then rookP (rookP (ofP v rowsC) 79 7 0) 81 7 0 else ofP v rowsC := by
  unfold rstP; rw [if_neg h7, if_neg h8]
set_option maxRecDepth 100000 in
set_option maxHeartbeats 2000000 in
theorem rstart_at7 (w : World) : Calls Tryd.prog 25 #[.int .u8 7] w (PosL (rstP 7) w) := by
  obtain ⟨p, Hp⟩ : ∃ p, Hid (ofP 7 rowsH = p) := ⟨_, Lib.hid rfl⟩
  obtain ⟨q, Hq⟩ : ∃ q, Hid (rookP p 81 7 0 = q) := ⟨_, Lib.hid rfl⟩
  have HE := Lib.hid (show rstP 7 = q by rw [rst_7, Hp.out, Hq.out])
  go_enter Tryd.func25, Tryd.ntmps25
  go_wp2_with (refine step_alloc (op := ⟨some 2, _, _, _, _, _⟩) rfl rfl ?_; intro b2 w1 N R; have HG2 := Lib.hid (Nat.le_of_eq N.at_.symm); have HR2 := Lib.hid R; have HB := Lib.hid N.below; clear N R)
  refine (ofrows_any 7 rowsH _ 8 _ rfl rowsH_size (blk_eq (by kernel_rfl))).mono ?_; rintro e wn ⟨rfl, hb⟩; have hb := below_on ((Below.refl _ _).alloc (Nat.le_refl _) _) hb; have HR2 := Lib.hid (HR2.out.later hb); have HB := Lib.hid (below_on HB.out hb); clear hb; rw [Hp.out]
  go_wp2_with (first
    | (refine step_alloc rfl rfl ?_; intro b3 w1 N R; have HG3 := Lib.hid (show w.heap.size ≤ b3 by have := N.at_; have := HB.out.size; omega); have HD := Lib.hid (show b2 ≠ b3 by have := N.at_; have := HR2.out.lt; omega); have HR2 := Lib.hid (HR2.out.later N.below); have HR3 := Lib.hid R; have HB := Lib.hid (below_on HB.out N.below); clear N R)
    | (refine step_store rfl _ _ rfl b3 rfl zeroP p ?_ ?_ ?_; rfl; exact HR3.out; intro w2 U R; have HR2 := Lib.hid (HR2.out.apart U HD.out); have HR3 := Lib.hid R; have HB := Lib.hid (HB.out.trans (U.below HG3.out)); clear U R)
    | (refine step_write rfl 35 _ _ rfl b3 81 2 rfl p (rookP zeroP 81 7 0) (rook_val1 7 0) ?_ (by omega) size35 ?_; exact HR3.out; intro w2 U R; rw [over_two, Hq.out] at R; have HR2 := Lib.hid (HR2.out.apart U HD.out); have HR3 := Lib.hid R; have HB := Lib.hid (HB.out.trans (U.below HG3.out)); clear U R)
    | (refine step_load rfl _ rfl b3 rfl q ?_ ?_; exact HR3.out)
    | (refine step_store rfl _ _ rfl b2 rfl zeroP q ?_ ?_ ?_; rfl; exact HR2.out; intro w2 U R; have HR2 := Lib.hid R; have HB := Lib.hid (HB.out.trans (U.below HG2.out)); clear U R))
  refine bodyPost_ret (v := .agg (posA q)) (results_row rfl _ _ _ _ rfl HR2.out) rfl ⟨by rw [HE.out], HB.out⟩
set_option maxRecDepth 100000 in
set_option maxHeartbeats 2000000 in
theorem rstart_at8 (w : World) : Calls Tryd.prog 25 #[.int .u8 8] w (PosL (rstP 8) w) := by
  obtain ⟨q, Hq⟩ : ∃ q, Hid (ofP 8 rowsR = q) := ⟨_, Lib.hid rfl⟩
  have HE := Lib.hid (show rstP 8 = q by rw [rst_8, Hq.out])
  go_enter Tryd.func25, Tryd.ntmps25
  go_wp2_with (refine step_alloc (op := ⟨some 2, _, _, _, _, _⟩) rfl rfl ?_; intro b2 w1 N R; have HG2 := Lib.hid (Nat.le_of_eq N.at_.symm); have HR2 := Lib.hid R; have HB := Lib.hid N.below; clear N R)
  refine (ofrows_any 8 rowsR _ 8 _ rfl rowsR_size (blk_eq (by kernel_rfl))).mono ?_; rintro e wn ⟨rfl, hb⟩; have hb := below_on ((Below.refl _ _).alloc (Nat.le_refl _) _) hb; have HR2 := Lib.hid (HR2.out.later hb); have HB := Lib.hid (below_on HB.out hb); clear hb; rw [Hq.out]
  go_wp2_with (refine step_store rfl _ _ rfl b2 rfl zeroP q ?_ ?_ ?_; rfl; exact HR2.out; intro w2 U R; have HR2 := Lib.hid R; have HB := Lib.hid (HB.out.trans (U.below HG2.out)); clear U R)
  refine bodyPost_ret (v := .agg (posA q)) (results_row rfl _ _ _ _ rfl HR2.out) rfl ⟨by rw [HE.out], HB.out⟩
set_option maxRecDepth 100000 in
set_option maxHeartbeats 2000000 in
theorem rstart_of (w : World) (v : Nat) (h7 : v ≠ 7) (h8 : v ≠ 8) : Calls Tryd.prog 25 #[.int .u8 (v : Int)] w (PosL (rstP v) w) := by
  obtain ⟨p, Hp⟩ : ∃ p, Hid (ofP v rowsC = p) := ⟨_, Lib.hid rfl⟩
  have g7 : ((v : Int) == 7) = false := by simp; omega
  have g8 : ((v : Int) == 8) = false := by simp; omega
  have HS := Lib.hid (rst_of h7 h8)
  rw [Hp.out] at HS
  clear h7 h8
  go_enter Tryd.func25, Tryd.ntmps25
  go_wp2_with (refine step_alloc (op := ⟨some 2, _, _, _, _, _⟩) rfl rfl ?_; intro b2 w1 N R; have HG2 := Lib.hid (Nat.le_of_eq N.at_.symm); have HR2 := Lib.hid R; have HB := Lib.hid N.below; clear N R)
  refine (ofrows_any (v : Int) rowsC _ 8 _ rfl rowsC_size (blk_eq (by kernel_rfl))).mono ?_; rintro e wn ⟨rfl, hb⟩; have hb := below_on ((Below.refl _ _).alloc (Nat.le_refl _) _) hb; have HR2 := Lib.hid (HR2.out.later hb); have HB := Lib.hid (below_on HB.out hb); clear hb; rw [Hp.out]
  go_wp2_with (first
    | (refine step_alloc rfl rfl ?_; intro b4 w1 N R; have HG4 := Lib.hid (show w.heap.size ≤ b4 by have := N.at_; have := HB.out.size; omega); have HD := Lib.hid (show b2 ≠ b4 by have := N.at_; have := HR2.out.lt; omega); have HR2 := Lib.hid (HR2.out.later N.below); have HR4 := Lib.hid R; have HB := Lib.hid (below_on HB.out N.below); clear N R)
    | (refine step_store rfl _ _ rfl b4 rfl zeroP p ?_ ?_ ?_; rfl; exact HR4.out; intro w2 U R; have HR2 := Lib.hid (HR2.out.apart U HD.out); have HR4 := Lib.hid R; have HB := Lib.hid (HB.out.trans (U.below HG4.out)); clear U R))
  refine (rcas_any v _).mono ?_; rintro e wn ⟨rfl, rfl⟩
  cases hcas : casB v
  · have HE := Lib.hid (show rstP v = p by rw [HS.out, hcas]; rfl)
    obtain ⟨q, Hq⟩ : ∃ q, q = p := ⟨_, rfl⟩
    subst Hq
    go_wp2_with (first
      | (refine step_load rfl _ rfl b4 rfl q ?_ ?_; exact HR4.out)
      | (refine step_store rfl _ _ rfl b2 rfl zeroP q ?_ ?_ ?_; rfl; exact HR2.out; intro w2 U R; have HR2 := Lib.hid R; have HB := Lib.hid (HB.out.trans (U.below HG2.out)); clear U R))
    refine bodyPost_ret (v := .agg (posA q)) (results_row rfl _ _ _ _ rfl HR2.out) rfl ⟨by rw [HE.out], HB.out⟩
  · obtain ⟨q, Hq⟩ : ∃ q, Hid (rookP (rookP p 79 7 0) 81 7 0 = q) := ⟨_, Lib.hid rfl⟩
    have HE := Lib.hid (show rstP v = q by rw [HS.out, hcas]; exact Hq.out)
    go_wp2_with (first
      | (refine step_write rfl 36 _ _ rfl b4 79 4 rfl p (rookP (rookP zeroP 79 7 0) 81 7 0) (rook4 7 0) ?_ (by omega) size36 ?_; exact HR4.out; intro w2 U R; rw [over_four, Hq.out] at R; have HR2 := Lib.hid (HR2.out.apart U HD.out); have HR4 := Lib.hid R; have HB := Lib.hid (HB.out.trans (U.below HG4.out)); clear U R)
      | (refine step_load rfl _ rfl b4 rfl q ?_ ?_; exact HR4.out)
      | (refine step_store rfl _ _ rfl b2 rfl zeroP q ?_ ?_ ?_; rfl; exact HR2.out; intro w2 U R; have HR2 := Lib.hid R; have HB := Lib.hid (HB.out.trans (U.below HG2.out)); clear U R))
    refine bodyPost_ret (v := .agg (posA q)) (results_row rfl _ _ _ _ rfl HR2.out) rfl ⟨by rw [HE.out], HB.out⟩
theorem rstart_any (v : Nat) (w : World) : Calls Tryd.prog 25 #[.int .u8 (v : Int)] w (PosL (rstP v) w) := by
  by_cases h7 : v = 7
  · subst h7; exact rstart_at7 w
  · by_cases h8 : v = 8
    · subst h8; exact rstart_at8 w
    · exact rstart_of w v h7 h8
end Go.Proofs.YtkeoadcckbcccaaDoor
