/-
  Contract of Parse (layer 10).
-/
import Derived.Test.YtjbfjohgfbipgaaGreatDoorRdParse
namespace Go.Proofs.YtjbfjohgfbipgaaGreatDoor
open Go.RowKit
set_option linter.unusedVariables false
set_option linter.unusedSimpArgs false

/-- The answer's number where there is no position. -/
def parN (v : Int) (t : List UInt8) : Int := bif decide (9 ≤ v) then 2 else bif decide (200 < t.length) then 3 else 5
def parO (v : Int) (t : List UInt8) : Option (Nat → Int) := bif decide (9 ≤ v) then none else bif decide (200 < t.length) then none else rdAll v t
set_option maxRecDepth 100000 in
theorem fparse_any (v : Int) (t : List UInt8) (w : World) (hv : 0 ≤ v ∧ v ≤ 255) (hM : TabMx w) (hT : TabErr w) (hC : TabCorn w) (hV : TabVar w) (hP : TabPow w) : Calls Tryz.prog 14 #[.int .u8 v, .string (bz t)] w (ReadP (parN v t) (parO v t) w) := by
  have HM := Lib.hid hM
  have HT := Lib.hid hT
  have HC := Lib.hid hC
  have HV := Lib.hid hV
  have HP := Lib.hid hP
  obtain ⟨v0, v1⟩ := hv
  obtain ⟨m, hm⟩ : ∃ m, parN v t = m := ⟨_, rfl⟩
  obtain ⟨o, ho⟩ : ∃ o, parO v t = o := ⟨_, rfl⟩
  rw [hm, ho]
  unfold parN at hm
  unfold parO at ho
  have hlz : (bz t).size = t.length := bz_size t
  obtain ⟨n, hn⟩ : ∃ n, t.length = n := ⟨_, rfl⟩
  rw [hn] at hlz hm ho
  clear hM hT hC hV hP
  by_cases h9 : 9 ≤ v
  · have HE := Lib.hid (show o = none by rw [← ho, decide_eq_true h9]; rfl)
    have HN := Lib.hid (show m = 2 by rw [← hm, decide_eq_true h9]; rfl)
    clear hm ho hn hlz
    go_enter Tryz.func14, Tryz.ntmps14
    go_wp2_with (first
      | (refine step_alloc rfl rfl ?_; intro b w1 N R; have HG := Lib.hid (Nat.le_of_eq N.at_.symm); have HR := Lib.hid R; have HB := Lib.hid N.below; clear N R)
      | (refine step_build rfl 31 _ rfl (posA zeroP) (by kernel_rfl) ?_)
      | (refine step_store rfl _ _ rfl b rfl zeroP zeroP rfl ?_ ?_; exact HR.out; intro w2 U R; have HR := Lib.hid R; have HB := Lib.hid (HB.out.trans (U.below HG.out)); clear U R))
    rw [HE.out, HN.out]
    exact bodyPost_ret (results_cp rfl _ _ _ _ _ rfl rfl HR.out) rfl ⟨rfl, HB.out⟩
  · have g9 : v < 9 := by omega
    by_cases hl : 200 < n
    · have HE := Lib.hid (show o = none by rw [← ho, decide_eq_false h9, decide_eq_true hl]; rfl)
      have HN := Lib.hid (show m = 3 by rw [← hm, decide_eq_false h9, decide_eq_true hl]; rfl)
      have gl : (200 : Int) < (n : Int) := by omega
      clear hm ho hn hl
      go_enter Tryz.func14, Tryz.ntmps14
      go_wp2_with (first
        | (refine step_alloc rfl rfl ?_; intro b w1 N R; have HG := Lib.hid (Nat.le_of_eq N.at_.symm); have HR := Lib.hid R; have HB := Lib.hid N.below; clear N R)
        | (refine step_build rfl 31 _ rfl (posA zeroP) (by kernel_rfl) ?_)
        | (refine step_store rfl _ _ rfl b rfl zeroP zeroP rfl ?_ ?_; exact HR.out; intro w2 U R; have HR := Lib.hid R; have HB := Lib.hid (HB.out.trans (U.below HG.out)); clear U R))
      rw [HE.out, HN.out]
      exact bodyPost_ret (results_cp rfl _ _ _ _ _ rfl rfl HR.out) rfl ⟨rfl, HB.out⟩
    · have HE := Lib.hid (show rdAll v t = o by rw [← ho, decide_eq_false h9, decide_eq_false hl]; rfl)
      have HN := Lib.hid (show m = 5 by rw [← hm, decide_eq_false h9, decide_eq_false hl]; rfl)
      have gl : (n : Int) ≤ 200 := by omega
      have HLe := Lib.hid (show t.length ≤ 10000 by omega)
      have HVr := Lib.hid (show 0 ≤ v ∧ v ≤ 255 by omega)
      clear hm ho hn hl
      cases o with
      | none =>
        go_enter Tryz.func14, Tryz.ntmps14
        go_wp2_with (first
          | (refine step_alloc rfl rfl ?_; intro b w1 N R; have HG := Lib.hid (Nat.le_of_eq N.at_.symm); have HR := Lib.hid R; have HB := Lib.hid N.below; clear N R)
          | (go_at_call 26; refine (read_any v t _ HVr.out HLe.out (HM.out.on HB.out) (HT.out.on HB.out) (HC.out.on HB.out) (HV.out.on HB.out) (HP.out.on HB.out)).mono ?_; rintro e w2 ⟨rfl, hb⟩; rw [HE.out, RdO]; have HR := Lib.hid (HR.out.later hb); have HB := Lib.hid (HB.out.trans (hb.mono HB.out.size)); clear hb)
          | (refine step_store rfl _ _ rfl b rfl zeroP zeroP rfl ?_ ?_; exact HR.out; intro w2 U R; have HR := Lib.hid R; have HB := Lib.hid (HB.out.trans (U.below HG.out)); clear U R))
        rw [HN.out]
        exact bodyPost_ret (results_cp rfl _ _ _ _ _ rfl rfl HR.out) rfl ⟨rfl, HB.out⟩
      | some q =>
        go_enter Tryz.func14, Tryz.ntmps14
        go_wp2_with (first
          | (refine step_alloc rfl rfl ?_; intro b w1 N R; have HG := Lib.hid (Nat.le_of_eq N.at_.symm); have HR := Lib.hid R; have HB := Lib.hid N.below; clear N R)
          | (go_at_call 26; refine (read_any v t _ HVr.out HLe.out (HM.out.on HB.out) (HT.out.on HB.out) (HC.out.on HB.out) (HV.out.on HB.out) (HP.out.on HB.out)).mono ?_; rintro e w2 ⟨rfl, hb⟩; rw [HE.out, RdO]; have HR := Lib.hid (HR.out.later hb); have HB := Lib.hid (HB.out.trans (hb.mono HB.out.size)); clear hb)
          | (refine step_store rfl _ _ rfl b rfl zeroP q rfl ?_ ?_; exact HR.out; intro w2 U R; have HR := Lib.hid R; have HB := Lib.hid (HB.out.trans (U.below HG.out)); clear U R))
        exact bodyPost_ret (results_cp rfl _ _ _ _ _ rfl rfl HR.out) rfl ⟨rfl, HB.out⟩
end Go.Proofs.YtjbfjohgfbipgaaGreatDoor
