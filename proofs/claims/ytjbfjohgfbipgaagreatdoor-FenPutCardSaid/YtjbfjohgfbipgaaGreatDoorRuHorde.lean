/-
  Contracts of the program's horde, race.
-/
import Derived.Test.YtjbfjohgfbipgaaGreatDoorRuShuf
namespace Go.Proofs.YtjbfjohgfbipgaaGreatDoor
open Go.RowKit
set_option linter.unusedVariables false
set_option linter.unusedSimpArgs false
theorem square_int (f r : Nat) (fi ri : Int) (w : World) (hf : f < 8) (hr : r < 8) (ef : fi = (f : Int)) (er : ri = (r : Int)) : Calls Tryz.prog 79 #[.int .i64 fi, .int .i64 ri] w (IntE ((8 * r + f : Nat) : Int) w) := by
  subst ef; subst er; exact square_any f r w hf hr
theorem man_int (c k : Nat) (ci ki : Int) (w : World) (hc : c ≤ 1) (hk : k ≤ 15) (ec : ci = (c : Int)) (ek : ki = (k : Int)) : Calls Tryz.prog 80 #[.int .u8 ci, .int .u8 ki] w (U8E ((8 * c + k : Nat) : Int) w) := by
  subst ec; subst ek; exact man_any c k w hc hk
theorem kinds_ch : Kinds15 chR := fun i hi => ⟨[4, 2, 3, 5, 6, 3, 2, 4].getD i 0, by
  have key : ∀ i : Fin 8, [4, 2, 3, 5, 6, 3, 2, 4].getD i.val 0 ≤ 7 := by decide +kernel
  exact key ⟨i, hi⟩, rfl⟩
def hoN (p : Nat → Int) : Nat → Nat → Int
  | 0 => p
  | k + 1 => upd (hoN p k) (1 + k) 1
def hoF (j : Nat) : Nat := [1, 2, 5, 6].getD j 0
def hoM (p : Nat → Int) : Nat → Nat → Int
  | 0 => p
  | j + 1 => upd (hoM p j) (1 + (32 + hoF j)) 1
/-- The first position of horde. -/
def hoP : Nat → Int := hoM (hoN (armyP 7 (bareP 7) 1 chR) 32) 4
theorem ho_at (j : Nat) (h : j < 4) : (#[.int .i64 1, .int .i64 2, .int .i64 5, .int .i64 6] : Array Value)[j]? = some (.int .i64 ((hoF j : Nat) : Int)) := by
  match j, h with
  | 0, _ => rfl
  | 1, _ => rfl
  | 2, _ => rfl
  | 3, _ => rfl
theorem hoF_lt (j : Nat) (h : j < 4) : hoF j < 8 := by
  have key : ∀ i : Fin 4, hoF i.val < 8 := by decide +kernel
  exact key ⟨j, h⟩
theorem size67 : (Tryz.prog.info? 3).map (·.size) = some 1 := by kernel_rfl
set_option maxRecDepth 100000 in
set_option maxHeartbeats 2000000 in
theorem horde_any (w : World) (hT : TabVar w) : Calls Tryz.prog 47 #[] w (PosL hoP w) := by
  have HT := Lib.hid hT
  clear hT
  go_enter Tryz.func47, Tryz.ntmps47
  go_wp2_with (refine step_alloc rfl rfl ?_; intro b0 w1 N R; have HG0 := Lib.hid (Nat.le_of_eq N.at_.symm); have HR0 := Lib.hid R; have HB := Lib.hid N.below; clear N R)
  refine (bare_any 7 _).mono ?_; rintro e wn ⟨rfl, hb⟩; have HR0 := Lib.hid (HR0.out.later hb); have HB := Lib.hid (below_on HB.out hb); clear hb
  obtain ⟨pb, Hpb⟩ : ∃ q, Hid (bareP 7 = q) := ⟨_, Lib.hid rfl⟩
  have hp0 := Lib.hid (show pb 0 = ((7 : Nat) : Int) by rw [← Hpb.out]; rfl)
  rw [Hpb.out]
  go_wp2_with fail
  refine (chess_any _).mono ?_; rintro e wn ⟨rfl, hb⟩; have HR0 := Lib.hid (HR0.out.later hb); have HB := Lib.hid (below_on HB.out hb); clear hb
  obtain ⟨rc, Hrc⟩ : ∃ q, Hid (chR = q) := ⟨_, Lib.hid rfl⟩
  have HV := Lib.hid (show Kinds15 rc by rw [← Hrc.out]; exact kinds_ch)
  rw [Hrc.out]
  go_wp2_with fail
  refine (army1_any 7 pb rc _ (by omega) hp0.out HV.out (HT.out.on HB.out)).mono ?_; rintro e wn ⟨rfl, hb⟩; have HR0 := Lib.hid (HR0.out.later hb); have HB := Lib.hid (below_on HB.out hb); clear hb
  obtain ⟨pa, Hpa⟩ : ∃ q, Hid (armyP 7 pb 1 rc = q) := ⟨_, Lib.hid rfl⟩
  have HE := Lib.hid (show hoP = hoM (hoN pa 32) 4 by unfold hoP; rw [Hpb.out, Hrc.out, Hpa.out])
  rw [Hpa.out]
  go_wp2_with (first
    | (refine step_alloc rfl rfl ?_; intro b1 w1 N R; have HG1 := Lib.hid (show w.heap.size ≤ b1 by have := N.at_; have := HB.out.size; omega); have HD := Lib.hid (show b0 ≠ b1 by have := N.at_; have := HR0.out.lt; omega); have HR0 := Lib.hid (HR0.out.later N.below); have HR1 := Lib.hid R; have HB := Lib.hid (below_on HB.out N.below); clear N R)
    | (refine step_store rfl _ _ rfl b1 rfl zeroP pa rfl ?_ ?_; exact HR1.out; intro w2 U R; have HR0 := Lib.hid (HR0.out.apart U HD.out); have HR1 := Lib.hid R; have HB := Lib.hid (HB.out.trans (U.below HG1.out)); clear U R))
  refine (square_int 0 4 0 4 _ (by omega) (by omega) rfl rfl).mono ?_; rintro e wn ⟨rfl, rfl⟩
  go_wp2_with fail
  go_loopw [9] (fun i wr => ∃ k : Nat, k ≤ 32 ∧ i = .int .i64 (k : Int) ∧ Row wr b1 (hoN pa k) ∧ Row wr b0 zeroP ∧ Below w.heap.size w wr) (fun i _ => 32 - (intOf i).toNat)
  case atStart => exact ⟨0, by omega, rfl, HR1.out, HR0.out, HB.out⟩
  case round =>
    clear HR1 HR0 HB
    obtain ⟨k, hk, rfl, h1, h0, hb⟩ := hrel
    have HR1 := Lib.hid h1
    have HR0 := Lib.hid h0
    have HB := Lib.hid hb
    clear h1 h0 hb
    by_cases hlt : k < 32
    · have g0 : decide ((k : Int) < 32) = true := decide_eq_true (by omega)
      obtain ⟨p, Hp⟩ : ∃ q, Hid (hoN pa k = q) := ⟨_, Lib.hid rfl⟩
      have HN := Lib.hid (show hoN pa (k + 1) = upd p (1 + k) 1 by rw [← Hp.out]; rfl)
      rw [Hp.out] at HR1
      have HK := Lib.hid (kAt_board (Nat.zero_le _) (show k < 64 by omega))
      go_wp2_with fail
      refine (man_int 0 1 0 1 _ (by omega) (by omega) rfl rfl).mono ?_; rintro e wn ⟨rfl, rfl⟩
      go_wp2_with (refine step_cell rfl 5 _ _ rfl b1 (1 + k) rfl .u8 1 rfl p ?_ (by omega) HK.out size5 ?_; exact HR1.out; intro w2 U R; have HR0 := Lib.hid (HR0.out.apart U HD.out); have HR1 := Lib.hid R; have HB := Lib.hid (HB.out.trans (U.below HG1.out)); clear U R)
      go_roundw
      case rel => exact ⟨k + 1, by omega, by go_num, by rw [HN.out]; exact HR1.out, HR0.out, HB.out⟩
      case measure => simp [intOf]; omega
    · obtain rfl : k = 32 := by omega
      obtain ⟨ph, Hph⟩ : ∃ q, Hid (hoN pa 32 = q) := ⟨_, Lib.hid rfl⟩
      have HE := Lib.hid (show hoP = hoM ph 4 by rw [HE.out, Hph.out])
      rw [Hph.out] at HR1
      rw [show ((32 : Nat) : Int) = (32 : Int) from rfl]
      go_wp2_with fail
      go_loopw [18] (fun i wr => ∃ j : Nat, j ≤ 4 ∧ i = .int .i64 (j : Int) ∧ Row wr b1 (hoM ph j) ∧ Row wr b0 zeroP ∧ Below w.heap.size w wr) (fun i _ => 4 - (intOf i).toNat)
      case atStart => exact ⟨0, by omega, rfl, HR1.out, HR0.out, HB.out⟩
      case round =>
        clear HR1 HR0 HB
        obtain ⟨j, hj, rfl, h1, h0, hb⟩ := hrel
        have HR1 := Lib.hid h1
        have HR0 := Lib.hid h0
        have HB := Lib.hid hb
        clear h1 h0 hb
        by_cases hlt : j < 4
        · obtain ⟨p, Hp⟩ : ∃ q, Hid (hoM ph j = q) := ⟨_, Lib.hid rfl⟩
          obtain ⟨f, Hf⟩ : ∃ f, Hid (hoF j = f) := ⟨_, Lib.hid rfl⟩
          have lf : f < 8 := by rw [← Hf.out]; exact hoF_lt j hlt
          have HI := Lib.hid (ho_at j hlt)
          have HN := Lib.hid (show hoM ph (j + 1) = upd p (1 + (32 + f)) 1 by rw [← Hp.out, ← Hf.out]; rfl)
          rw [Hp.out] at HR1
          rw [Hf.out] at HI
          obtain ⟨s, Hs⟩ : ∃ s, Hid (8 * 4 + f = s) := ⟨_, Lib.hid rfl⟩
          have ls : s < 64 := by have := Hs.out; omega
          have ls' : (s : Int) < 64 := by omega
          have HK := Lib.hid (kAt_board (Nat.zero_le _) ls)
          have HS := Lib.hid (show s = 32 + f from Hs.out.symm)
          go_wp2_with (refine step_index rfl 93 3 _ _ rfl 4 #[.int .i64 1, .int .i64 2, .int .i64 5, .int .i64 6] rfl .i64 j rfl hlt Tryz.underlying93 Tryz.underlying3 rfl size67 (.int .i64 (f : Int)) HI.out ?_)
          refine (square_int f 4 _ 4 _ lf (by omega) rfl rfl).mono ?_; rintro e wn ⟨rfl, rfl⟩; rw [Hs.out]
          go_wp2_with fail
          refine (man_int 0 1 0 1 _ (by omega) (by omega) rfl rfl).mono ?_; rintro e wn ⟨rfl, rfl⟩
          go_wp2_with (refine step_cell rfl 5 _ _ rfl b1 (1 + s) rfl .u8 1 rfl p ?_ (by omega) HK.out size5 ?_; exact HR1.out; intro w2 U R; have HR0 := Lib.hid (HR0.out.apart U HD.out); have HR1 := Lib.hid R; have HB := Lib.hid (HB.out.trans (U.below HG1.out)); clear U R)
          go_roundw
          case rel => exact ⟨j + 1, by omega, by go_num, by rw [HN.out, ← HS.out]; exact HR1.out, HR0.out, HB.out⟩
          case measure => simp [intOf]; omega
        · obtain rfl : j = 4 := by omega
          obtain ⟨q, Hq⟩ : ∃ q, Hid (hoM ph 4 = q) := ⟨_, Lib.hid rfl⟩
          rw [Hq.out] at HR1
          go_wp2_with (first
            | (refine step_load rfl _ rfl b1 rfl q ?_ ?_; exact HR1.out)
            | (refine step_store rfl _ _ rfl b0 rfl zeroP q rfl ?_ ?_; exact HR0.out; intro w2 U R; have HR0 := Lib.hid R; have HB := Lib.hid (HB.out.trans (U.below HG0.out)); clear U R))
          refine bodyPost_ret (v := .agg (posA q)) (results_row rfl _ _ _ _ rfl HR0.out) rfl ⟨by rw [HE.out, Hq.out], HB.out⟩
end Go.Proofs.YtjbfjohgfbipgaaGreatDoor
