/-
  Contract of the program's Start.
-/
import Derived.Test.YtjbfjohgfbipgaaGreatDoorRuRace
namespace Go.Proofs.YtjbfjohgfbipgaaGreatDoor
open Go.RowKit
set_option linter.unusedVariables false
set_option linter.unusedSimpArgs false
/-- The first position of a variant. -/
def startP (v : Nat) : Nat → Int := if 9 ≤ v then zeroP else if v = 1 then posN 518 else if v = 7 then hoP else if v = 8 then raP else bothP v chR
theorem start_no (v : Nat) (h : 9 ≤ v) : startP v = zeroP := if_pos h
theorem start_1 : startP 1 = posN 518 := rfl
theorem start_7 : startP 7 = hoP := rfl
theorem start_8 : startP 8 = raP := rfl
theorem start_rest {v : Nat} (h : v < 9) (h1 : v ≠ 1) (h7 : v ≠ 7) (h8 : v ≠ 8) : startP v = bothP v chR := by
  unfold startP
  rw [if_neg (by omega), if_neg h1, if_neg h7, if_neg h8]
set_option maxRecDepth 100000 in
set_option maxHeartbeats 2000000 in
theorem start_out (w : World) (v : Nat) (h : 9 ≤ v) : Calls Tryz.prog 25 #[.int .u8 (v : Int)] w (PosB (startP v) false w) := by
  have HE := Lib.hid (start_no v h)
  have g0 : decide ((9 : Int) ≤ (v : Int)) = true := decide_eq_true (by omega)
  go_enter Tryz.func25, Tryz.ntmps25
  go_wp2_with (first
    | (refine step_alloc rfl rfl ?_; intro b2 w1 N R; have HG2 := Lib.hid (Nat.le_of_eq N.at_.symm); have HR2 := Lib.hid R; have HB := Lib.hid N.below; clear N R)
    | (refine step_build rfl 31 _ rfl (posA zeroP) (by kernel_rfl) ?_)
    | (refine step_store rfl _ _ rfl b2 rfl zeroP zeroP rfl ?_ ?_; exact HR2.out; intro w2 U R; have HR2 := Lib.hid R; have HB := Lib.hid (HB.out.trans (U.below HG2.out)); clear U R))
  refine bodyPost_ret (v := .tuple #[.agg (posA zeroP), .bool false]) (results_two rfl _ _ _ _ _ rfl rfl HR2.out) rfl ⟨by rw [HE.out], HB.out⟩
set_option maxRecDepth 100000 in
set_option maxHeartbeats 2000000 in
theorem start_at1 (w : World) (hT : TabVar w) (hK : TabKn w) : Calls Tryz.prog 25 #[.int .u8 1] w (PosB (startP 1) true w) := by
  have HT := Lib.hid hT
  have HK := Lib.hid hK
  clear hT hK
  obtain ⟨q, Hq⟩ : ∃ q, Hid (posN 518 = q) := ⟨_, Lib.hid rfl⟩
  have HE := Lib.hid (show startP 1 = q by rw [start_1, Hq.out])
  go_enter Tryz.func25, Tryz.ntmps25
  go_wp2_with (refine step_alloc rfl rfl ?_; intro b2 w1 N R; have HG2 := Lib.hid (Nat.le_of_eq N.at_.symm); have HR2 := Lib.hid R; have HB := Lib.hid N.below; clear N R)
  refine (start960_any 518 _ (by omega) (HT.out.on HB.out) (HK.out.on HB.out)).mono ?_; rintro e wn ⟨rfl, hb⟩; have HR2 := Lib.hid (HR2.out.later hb); have HB := Lib.hid (below_on HB.out hb); clear hb; rw [Hq.out]
  go_wp2_with (refine step_store rfl _ _ rfl b2 rfl zeroP q rfl ?_ ?_; exact HR2.out; intro w2 U R; have HR2 := Lib.hid R; have HB := Lib.hid (HB.out.trans (U.below HG2.out)); clear U R)
  refine bodyPost_ret (v := .tuple #[.agg (posA q), .bool true]) (results_two rfl _ _ _ _ _ rfl rfl HR2.out) rfl ⟨by rw [HE.out], HB.out⟩
set_option maxRecDepth 100000 in
set_option maxHeartbeats 2000000 in
theorem start_at7 (w : World) (hT : TabVar w) : Calls Tryz.prog 25 #[.int .u8 7] w (PosB (startP 7) true w) := by
  have HT := Lib.hid hT
  clear hT
  obtain ⟨q, Hq⟩ : ∃ q, Hid (hoP = q) := ⟨_, Lib.hid rfl⟩
  have HE := Lib.hid (show startP 7 = q by rw [start_7, Hq.out])
  go_enter Tryz.func25, Tryz.ntmps25
  go_wp2_with (refine step_alloc rfl rfl ?_; intro b2 w1 N R; have HG2 := Lib.hid (Nat.le_of_eq N.at_.symm); have HR2 := Lib.hid R; have HB := Lib.hid N.below; clear N R)
  refine (horde_any _ (HT.out.on HB.out)).mono ?_; rintro e wn ⟨rfl, hb⟩; have HR2 := Lib.hid (HR2.out.later hb); have HB := Lib.hid (below_on HB.out hb); clear hb; rw [Hq.out]
  go_wp2_with (refine step_store rfl _ _ rfl b2 rfl zeroP q rfl ?_ ?_; exact HR2.out; intro w2 U R; have HR2 := Lib.hid R; have HB := Lib.hid (HB.out.trans (U.below HG2.out)); clear U R)
  refine bodyPost_ret (v := .tuple #[.agg (posA q), .bool true]) (results_two rfl _ _ _ _ _ rfl rfl HR2.out) rfl ⟨by rw [HE.out], HB.out⟩
set_option maxRecDepth 100000 in
set_option maxHeartbeats 2000000 in
theorem start_at8 (w : World) : Calls Tryz.prog 25 #[.int .u8 8] w (PosB (startP 8) true w) := by
  obtain ⟨q, Hq⟩ : ∃ q, Hid (raP = q) := ⟨_, Lib.hid rfl⟩
  have HE := Lib.hid (show startP 8 = q by rw [start_8, Hq.out])
  go_enter Tryz.func25, Tryz.ntmps25
  go_wp2_with (refine step_alloc rfl rfl ?_; intro b2 w1 N R; have HG2 := Lib.hid (Nat.le_of_eq N.at_.symm); have HR2 := Lib.hid R; have HB := Lib.hid N.below; clear N R)
  refine (race_any _).mono ?_; rintro e wn ⟨rfl, hb⟩; have HR2 := Lib.hid (HR2.out.later hb); have HB := Lib.hid (below_on HB.out hb); clear hb; rw [Hq.out]
  go_wp2_with (refine step_store rfl _ _ rfl b2 rfl zeroP q rfl ?_ ?_; exact HR2.out; intro w2 U R; have HR2 := Lib.hid R; have HB := Lib.hid (HB.out.trans (U.below HG2.out)); clear U R)
  refine bodyPost_ret (v := .tuple #[.agg (posA q), .bool true]) (results_two rfl _ _ _ _ _ rfl rfl HR2.out) rfl ⟨by rw [HE.out], HB.out⟩
set_option maxRecDepth 100000 in
set_option maxHeartbeats 2000000 in
theorem start_of (w : World) (v : Nat) (h : v < 9) (h1 : v ≠ 1) (h7 : v ≠ 7) (h8 : v ≠ 8) (hT : TabVar w) : Calls Tryz.prog 25 #[.int .u8 (v : Int)] w (PosB (startP v) true w) := by
  have HT := Lib.hid hT
  clear hT
  obtain ⟨q, Hq⟩ : ∃ q, Hid (bothP v chR = q) := ⟨_, Lib.hid rfl⟩
  have HE := Lib.hid (show startP v = q by rw [start_rest h h1 h7 h8, Hq.out])
  have g0 : decide ((9 : Int) ≤ (v : Int)) = false := decide_eq_false (by omega)
  have g1 : ((v : Int) == 1) = false := by simp; omega
  have g7 : ((v : Int) == 7) = false := by simp; omega
  have g8 : ((v : Int) == 8) = false := by simp; omega
  clear h1 h7 h8
  go_enter Tryz.func25, Tryz.ntmps25
  go_wp2_with (refine step_alloc rfl rfl ?_; intro b2 w1 N R; have HG2 := Lib.hid (Nat.le_of_eq N.at_.symm); have HR2 := Lib.hid R; have HB := Lib.hid N.below; clear N R)
  refine (chess_any _).mono ?_; rintro e wn ⟨rfl, hb⟩; have HR2 := Lib.hid (HR2.out.later hb); have HB := Lib.hid (below_on HB.out hb); clear hb
  obtain ⟨rc, Hrc⟩ : ∃ q, Hid (chR = q) := ⟨_, Lib.hid rfl⟩
  have HV := Lib.hid (show Kinds15 rc by rw [← Hrc.out]; exact kinds_ch)
  rw [Hrc.out] at Hq
  rw [Hrc.out]
  go_wp2_with fail
  refine (both_any v rc _ (by omega) HV.out (HT.out.on HB.out)).mono ?_; rintro e wn ⟨rfl, hb⟩; have HR2 := Lib.hid (HR2.out.later hb); have HB := Lib.hid (below_on HB.out hb); clear hb; rw [Hq.out]
  go_wp2_with (refine step_store rfl _ _ rfl b2 rfl zeroP q rfl ?_ ?_; exact HR2.out; intro w2 U R; have HR2 := Lib.hid R; have HB := Lib.hid (HB.out.trans (U.below HG2.out)); clear U R)
  refine bodyPost_ret (v := .tuple #[.agg (posA q), .bool true]) (results_two rfl _ _ _ _ _ rfl rfl HR2.out) rfl ⟨by rw [HE.out], HB.out⟩
theorem start_any (v : Nat) (w : World) (hv : v ≤ 255) (hT : TabVar w) (hK : TabKn w) : Calls Tryz.prog 25 #[.int .u8 (v : Int)] w (PosB (startP v) (decide (v < 9)) w) := by
  by_cases h : v < 9
  · rw [decide_eq_true h]
    by_cases h1 : v = 1
    · subst h1; exact start_at1 w hT hK
    · by_cases h7 : v = 7
      · subst h7; exact start_at7 w hT
      · by_cases h8 : v = 8
        · subst h8; exact start_at8 w
        · exact start_of w v h h1 h7 h8 hT
  · rw [decide_eq_false h]; exact start_out w v (by omega)
end Go.Proofs.YtjbfjohgfbipgaaGreatDoor
