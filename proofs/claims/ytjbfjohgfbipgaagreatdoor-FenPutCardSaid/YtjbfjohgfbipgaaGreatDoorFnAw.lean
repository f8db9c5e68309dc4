/-
  Layer 10's 'awake': the chapter's examples.
-/
import Derived.Test.YtjbfjohgfbipgaaGreatDoorFnFirst
namespace Go.Proofs.YtjbfjohgfbipgaaGreatDoor
open Go.RowKit
set_option linter.unusedVariables false
set_option linter.unusedSimpArgs false

def awLs : List (List UInt8) := [awB0, awB1, awB2, awB3]
theorem awLs_at (k : Nat) (hk : k < 4) : ∃ l, awLs[k]? = some l ∧ parO 0 l = none ∧ parN 0 l = 5 := by
  have key : ∀ l : List UInt8, (rdAll 0 l).isNone = true → decide (200 < l.length) = false → parO 0 l = none ∧ parN 0 l = 5 := fun l h1 h2 => by
    unfold parO parN
    rw [show decide ((9 : Int) ≤ 0) = false from rfl, h2]
    exact ⟨Option.isNone_iff_eq_none.1 h1, rfl⟩
  rcases (by omega : k = 0 ∨ k = 1 ∨ k = 2 ∨ k = 3) with rfl | rfl | rfl | rfl
  · exact ⟨awB0, rfl, key _ awB0_none (by decide +kernel)⟩
  · exact ⟨awB1, rfl, key _ awB1_none (by decide +kernel)⟩
  · exact ⟨awB2, rfl, key _ awB2_none (by decide +kernel)⟩
  · exact ⟨awB3, rfl, key _ awB3_none (by decide +kernel)⟩
theorem awG_at : ∃ q, parO 0 awG = some q ∧ q 78 = 1 ∧ q 86 = 7 ∧ q 87 = 9 ∧ q 83 = -1 ∧ q 79 = -1 := by
  have h := awG_some
  cases hq : rdAll 0 awG with
  | none => rw [hq] at h; cases h
  | some q =>
    rw [hq] at h
    simp only [Option.map_some, Option.some.injEq, Prod.mk.injEq] at h
    refine ⟨q, ?_, h.1, h.2.1, h.2.2.1, h.2.2.2.1, h.2.2.2.2⟩
    unfold parO
    rw [show decide ((9 : Int) ≤ 0) = false from rfl, show decide (200 < awG.length) = false by decide +kernel]
    exact hq
theorem strsAt_on {w w' : World} {g : Nat} {ls : List (List UInt8)} (h : StrsAt w g ls) (hb : Below w.heap.size w w') : StrsAt w' g ls := fun j l hl => by
  have hc := h j l hl
  rw [← hc]
  exact hb.cell (p := ⟨g, j, none⟩) (World.block_lt_of_cell? w _ hc)
theorem strsAt_upd {w w' : World} {b g : Nat} {ls : List (List UInt8)} (h : StrsAt w g ls) (u : Upd b w w') (hg : g ≠ b) : StrsAt w' g ls := fun j l hl => by
  rw [← h j l hl]; exact World.cell?_of_block (u.block g hg)
theorem strsAt_lt {w : World} {g : Nat} (h : StrsAt w g awLs) : g < w.heap.size := World.block_lt_of_cell? w _ (h 0 awB0 rfl)
theorem awStr {w : World} {g : Nat} (h : Blk w g 9 (#[.string (bz awB0), .string (bz awB1), .string (bz awB2), .string (bz awB3)])) : StrsAt w g awLs := fun j l hl => by
  rw [Blk.cell h]
  have hj : j < 4 := (List.getElem?_eq_some_iff.1 hl).1
  rcases (by omega : j = 0 ∨ j = 1 ∨ j = 2 ∨ j = 3) with rfl | rfl | rfl | rfl <;> (cases hl; rfl)
set_option maxRecDepth 100000 in
set_option maxHeartbeats 4000000 in
theorem fawake_any (w : World) (hM : TabMx w) (hT : TabErr w) (hC : TabCorn w) (hV : TabVar w) (hP : TabPow w) (hK : TabKn w) : Calls Tryz.prog 5 #[] w (BoL true w) := by
  have HM := Lib.hid hM
  have HT := Lib.hid hT
  have HC := Lib.hid hC
  have HV := Lib.hid hV
  have HP := Lib.hid hP
  have HK := Lib.hid hK
  have HB := Lib.hid (Below.refl w.heap.size w)
  have Hbad := Lib.hid awLs_at
  obtain ⟨qg, hg, g78, g86, g87, g83, g79⟩ := awG_at
  have HG0 := Lib.hid hg
  have HG78 := Lib.hid g78
  have HG86 := Lib.hid g86
  have HG87 := Lib.hid g87
  have HG83 := Lib.hid g83
  have HG79 := Lib.hid g79
  clear hM hT hC hV hP hK hg g78 g86 g87 g83 g79
  obtain ⟨x0, hx0⟩ : ∃ x, bz awF0 = x := ⟨_, rfl⟩
  have HX0 := Lib.hid hx0
  have e0 : (x0.toList == [114, 110, 98, 113, 107, 98, 110, 114, 47, 112, 112, 112, 112, 112, 112, 112, 112, 47, 56, 47, 56, 47, 56, 47, 56, 47, 80, 80, 80, 80, 80, 80, 80, 80, 47, 82, 78, 66, 81, 75, 66, 78, 82, 32, 119, 32, 75, 81, 107, 113, 32, 45, 32, 48, 32, 49]) = true := by rw [← hx0, bz_toList]; rfl
  clear hx0
  obtain ⟨x2, hx2⟩ : ∃ x, bz awF2 = x := ⟨_, rfl⟩
  have HX2 := Lib.hid hx2
  have e2 : (x2.toList == [114, 110, 98, 113, 107, 98, 110, 114, 47, 112, 112, 112, 112, 112, 112, 112, 112, 47, 56, 47, 56, 47, 56, 47, 56, 47, 80, 80, 80, 80, 80, 80, 80, 80, 47, 82, 78, 66, 81, 75, 66, 78, 82, 91, 93, 32, 119, 32, 75, 81, 107, 113, 32, 45, 32, 48, 32, 49]) = true := by rw [← hx2, bz_toList]; rfl
  clear hx2
  obtain ⟨x5, hx5⟩ : ∃ x, bz awF5 = x := ⟨_, rfl⟩
  have HX5 := Lib.hid hx5
  have e5 : (x5.toList == [114, 110, 98, 113, 107, 98, 110, 114, 47, 112, 112, 112, 112, 112, 112, 112, 112, 47, 56, 47, 56, 47, 56, 47, 56, 47, 80, 80, 80, 80, 80, 80, 80, 80, 47, 82, 78, 66, 81, 75, 66, 78, 82, 32, 119, 32, 75, 81, 107, 113, 32, 45, 32, 43, 48, 43, 48, 32, 48, 32, 49]) = true := by rw [← hx5, bz_toList]; rfl
  clear hx5
  obtain ⟨x8, hx8⟩ : ∃ x, bz awF8 = x := ⟨_, rfl⟩
  have HX8 := Lib.hid hx8
  have e8 : (x8.toList == [56, 47, 56, 47, 56, 47, 56, 47, 56, 47, 56, 47, 107, 114, 98, 110, 78, 66, 82, 75, 47, 113, 114, 98, 110, 78, 66, 82, 81, 32, 119, 32, 45, 32, 45, 32, 48, 32, 49]) = true := by rw [← hx8, bz_toList]; rfl
  clear hx8
  go_enter Tryz.func5, Tryz.ntmps5
  go_wp2_with fail
  refine (ffirst_any 0 (by decide) awF0 _ fit_start0 awF0_is (HV.out.on HB.out) (HK.out.on HB.out) (HC.out.on HB.out) (HP.out.on HB.out)).mono ?_; rintro e wf0 ⟨rfl, hb⟩; rw [HX0.out]; have HB := Lib.hid (HB.out.trans (hb.mono HB.out.size)); clear hb
  go_wp2_with fail
  refine (ffirst_any 2 (by decide) awF2 _ fit_start2 awF2_is (HV.out.on HB.out) (HK.out.on HB.out) (HC.out.on HB.out) (HP.out.on HB.out)).mono ?_; rintro e wf2 ⟨rfl, hb⟩; rw [HX2.out]; have HB := Lib.hid (HB.out.trans (hb.mono HB.out.size)); clear hb
  go_wp2_with fail
  refine (ffirst_any 5 (by decide) awF5 _ fit_start5 awF5_is (HV.out.on HB.out) (HK.out.on HB.out) (HC.out.on HB.out) (HP.out.on HB.out)).mono ?_; rintro e wf5 ⟨rfl, hb⟩; rw [HX5.out]; have HB := Lib.hid (HB.out.trans (hb.mono HB.out.size)); clear hb
  go_wp2_with fail
  refine (ffirst_any 8 (by decide) awF8 _ fit_start8 awF8_is (HV.out.on HB.out) (HK.out.on HB.out) (HC.out.on HB.out) (HP.out.on HB.out)).mono ?_; rintro e wf8 ⟨rfl, hb⟩; rw [HX8.out]; have HB := Lib.hid (HB.out.trans (hb.mono HB.out.size)); clear hb
  go_wp2_with fail
  have N := New.alloc wf8 (.cells (#[.string ⟨#[56, 47, 56, 32, 119, 32, 45, 32, 45, 32, 48, 32, 49]⟩, .string ⟨#[56, 47, 56, 47, 56, 47, 56, 47, 56, 47, 56, 47, 56, 47, 52, 52, 32, 119, 32, 45, 32, 45, 32, 48, 32, 49]⟩, .string ⟨#[56, 47, 56, 47, 56, 47, 56, 47, 56, 47, 56, 47, 56, 47, 56, 32, 119, 32, 75, 32, 45, 32, 48, 32, 49]⟩, .string ⟨#[56, 47, 56, 47, 56, 47, 56, 47, 56, 47, 56, 47, 56, 47, 56, 32, 119, 32, 45, 32, 45, 32, 48, 48, 32, 49]⟩]) 9)
  have R : Blk _ wf8.heap.size 9 (#[.string ⟨#[56, 47, 56, 32, 119, 32, 45, 32, 45, 32, 48, 32, 49]⟩, .string ⟨#[56, 47, 56, 47, 56, 47, 56, 47, 56, 47, 56, 47, 56, 47, 52, 52, 32, 119, 32, 45, 32, 45, 32, 48, 32, 49]⟩, .string ⟨#[56, 47, 56, 47, 56, 47, 56, 47, 56, 47, 56, 47, 56, 47, 56, 32, 119, 32, 75, 32, 45, 32, 48, 32, 49]⟩, .string ⟨#[56, 47, 56, 47, 56, 47, 56, 47, 56, 47, 56, 47, 56, 47, 56, 32, 119, 32, 45, 32, 45, 32, 48, 48, 32, 49]⟩]) := heap_alloc_new wf8 (.cells (#[.string ⟨#[56, 47, 56, 32, 119, 32, 45, 32, 45, 32, 48, 32, 49]⟩, .string ⟨#[56, 47, 56, 47, 56, 47, 56, 47, 56, 47, 56, 47, 56, 47, 52, 52, 32, 119, 32, 45, 32, 45, 32, 48, 32, 49]⟩, .string ⟨#[56, 47, 56, 47, 56, 47, 56, 47, 56, 47, 56, 47, 56, 47, 56, 32, 119, 32, 75, 32, 45, 32, 48, 32, 49]⟩, .string ⟨#[56, 47, 56, 47, 56, 47, 56, 47, 56, 47, 56, 47, 56, 47, 56, 32, 119, 32, 45, 32, 45, 32, 48, 48, 32, 49]⟩]) 9)
  generalize wf8.alloc (.cells (#[.string ⟨#[56, 47, 56, 32, 119, 32, 45, 32, 45, 32, 48, 32, 49]⟩, .string ⟨#[56, 47, 56, 47, 56, 47, 56, 47, 56, 47, 56, 47, 56, 47, 52, 52, 32, 119, 32, 45, 32, 45, 32, 48, 32, 49]⟩, .string ⟨#[56, 47, 56, 47, 56, 47, 56, 47, 56, 47, 56, 47, 56, 47, 56, 32, 119, 32, 75, 32, 45, 32, 48, 32, 49]⟩, .string ⟨#[56, 47, 56, 47, 56, 47, 56, 47, 56, 47, 56, 47, 56, 47, 56, 32, 119, 32, 45, 32, 45, 32, 48, 48, 32, 49]⟩]) 9) = wg at N R ⊢
  generalize wf8.heap.size = g at N R ⊢
  have HSt := Lib.hid (awStr R)
  have HB := Lib.hid (HB.out.trans (N.below.mono HB.out.size))
  clear N R
  go_loopw [2] (fun i wr => ∃ k : Nat, k ≤ 4 ∧ i = .int .i64 (k : Int) ∧ Below w.heap.size w wr ∧ StrsAt wr g awLs) (fun i _ => 4 - (intOf i).toNat)
  case atStart => exact ⟨0, by omega, rfl, HB.out, HSt.out⟩
  case round =>
    obtain ⟨k, hk, rfl, hb1, hst1⟩ := hrel
    have HB := Lib.hid hb1
    have HSt := Lib.hid hst1
    clear hb1 hst1
    by_cases hk4 : k < 4
    · have lk : (k : Int) < 4 := by omega
      have k0 : (0 : Int) ≤ (k : Int) := by omega
      have HK4 := Lib.hid hk4
      obtain ⟨l, hl, hO, hN⟩ := Hbad.out k hk4
      have HO := Lib.hid hO
      have HN := Lib.hid hN
      have hck := HSt.out k l hl
      clear hO hN hl hk hk4
      go_wp2_with (first
        | (go_at_call 14; refine (fparse_any 0 l _ (by decide) (HM.out.on HB.out) (HT.out.on HB.out) (HC.out.on HB.out) (HV.out.on HB.out) (HP.out.on HB.out)).mono ?_; rintro e w1 ⟨rfl, hb⟩; rw [HO.out, HN.out, RdO]; have HB := Lib.hid (HB.out.trans (hb.mono HB.out.size)); have HSt := Lib.hid (strsAt_on HSt.out hb); have HSt0 := HSt; clear hb hck)
        | (refine step_alloc rfl rfl ?_; intro b w2 N R; have HG := Lib.hid (show w.heap.size ≤ b by rw [N.at_]; exact HB.out.size); have HR := Lib.hid R; have HB := Lib.hid (HB.out.trans (N.below.mono HB.out.size)); have HSt := Lib.hid (strsAt_on HSt.out N.below); have HGb := Lib.hid (show g ≠ b by rw [N.at_]; exact Nat.ne_of_lt (strsAt_lt HSt0.out)); clear N R)
        | (refine step_store rfl _ _ rfl b rfl zeroP zeroP rfl ?_ ?_; exact HR.out; intro w3 U R; have HR := Lib.hid R; have HB := Lib.hid (HB.out.trans (U.below HG.out)); have HSt := Lib.hid (strsAt_upd HSt.out U HGb.out); clear U R))
      go_roundw
      case rel => exact ⟨k + 1, by have := HK4.out; omega, by go_num, HB.out, HSt.out⟩
      case measure => simp [intOf]; have := HK4.out; omega
    · obtain rfl : k = 4 := by omega
      go_wp2_with (first
        | (go_at_call 14; refine (fparse_any 0 awG _ (by decide) (HM.out.on HB.out) (HT.out.on HB.out) (HC.out.on HB.out) (HV.out.on HB.out) (HP.out.on HB.out)).mono ?_; rintro e w1 ⟨rfl, hb⟩; rw [HG0.out, RdO]; have HB := Lib.hid (HB.out.trans (hb.mono HB.out.size)); clear hb)
        | (refine step_alloc rfl rfl ?_; intro b w2 N R; have HG := Lib.hid (show w.heap.size ≤ b by rw [N.at_]; exact HB.out.size); have HR := Lib.hid R; have HB := Lib.hid (HB.out.trans (N.below.mono HB.out.size)); clear N R)
        | (refine step_store rfl _ _ rfl b rfl zeroP qg rfl ?_ ?_; exact HR.out; intro w3 U R; have HR := Lib.hid R; have HB := Lib.hid (HB.out.trans (U.below HG.out)); have c78 : w3.cell? ⟨b, 78, none⟩ = some (.int .u8 1) := (by rw [HR.out.cell 78 (by decide), HG78.out]; rfl); have c86 : w3.cell? ⟨b, 86, none⟩ = some (.int .i64 7) := (by rw [HR.out.cell 86 (by decide), HG86.out]; rfl); have c87 : w3.cell? ⟨b, 87, none⟩ = some (.int .i64 9) := (by rw [HR.out.cell 87 (by decide), HG87.out]; rfl); have c83 : w3.cell? ⟨b, 83, none⟩ = some (.int .i8 (-1)) := (by rw [HR.out.cell 83 (by decide), HG83.out]; rfl); have c79 : w3.cell? ⟨b, 79, none⟩ = some (.int .i8 (-1)) := (by rw [HR.out.cell 79 (by decide), HG79.out]; rfl); clear U R))
      exact bodyPost_ret (results_tmp rfl _ _ _) rfl ⟨rfl, HB.out⟩
end Go.Proofs.YtjbfjohgfbipgaaGreatDoor
