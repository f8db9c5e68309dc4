/-
 Several texts in one: AfU, AfV.
-/
import Derived.Test.YtidgfadbdgheiaaGreatDoorPsC
import Derived.Test.YtidgfadbdgheiaaGreatDoorVaBaseA
import Derived.Test.YtidgfadbdgheiaaGreatDoorAfGrE
import Derived.Test.YtidgfadbdgheiaaGreatDoorAfGrF
/-
 Layer 13's lawful.
-/
namespace Go.Proofs.YtidgfadbdgheiaaGreatDoor
open Go.RowKit
set_option linter.unusedVariables false
set_option linter.unusedSimpArgs false

/-- Nothing but pieces on the board, and a color, a variant, a passing square (or none) that there are. -/
def lawA (p : Nat → Int) : Bool := lawB p 64 && (decide (p 78 < 2) && (decide (p 0 < 9) && (decide (-1 ≤ p 83) && decide (p 83 < 64))))
set_option maxRecDepth 100000 in
set_option maxHeartbeats 1000000 in
theorem af_lawful (p : Nat → Int) (w : World) (hp : PsR p) : Calls Tryz.prog 12 #[.agg (posA p)] w (BoL (lawA p) w) := by
 have HP := Lib.hid hp.bd
 clear hp
 go_enter Tryz.func12, Tryz.ntmps12
 go_wp2_with (refine step_box rfl _ rfl p rfl ?_; intro b1 w1 N R; have HB := Lib.hid N.below; have HR1 := Lib.hid R; clear N R)
 go_loop [3] (fun i => ∃ k : Nat, k ≤ 64 ∧ i = .int .i64 (k : Int) ∧ Hid (lawB p k = true)) (fun i => 64 - (intOf i).toNat)
 case atStart => exact ⟨0, by omega, rfl, Lib.hid rfl⟩
 case round =>
  obtain ⟨k, hk, rfl, Hi⟩ := hrel
  by_cases hlt : k < 64
  ·have gk : decide ((k : Int) < 64) = true := decide_eq_true (by omega)
   have l0 : (k : Int) ≤ 63 := by omega
   have hx := HP.out k hlt
   obtain ⟨x, HX⟩ : ∃ x, Hid (p (1 + k) = x) := ⟨_, Lib.hid rfl⟩
   have hcell := HR1.out.cell (1 + k) (by omega)
   rw [HX.out, kAt_board (by omega) hlt] at hcell
   rw [HX.out] at hx
   obtain ⟨x0, x1⟩ := hx
   have HS := Lib.hid (show lawB p (k + 1) = (x == 0 || pcB x) by rw [lawB_succ, Hi.out, HX.out]; rfl)
   have Hlt := Lib.hid hlt
   clear hlt
   cases g0 : (x != 0)
   ·have HE := Lib.hid (show lawB p (k + 1) = true by rw [HS.out]; simp only [bne, Bool.not_eq_false'] at g0; rw [g0]; rfl)
    go_wp2_with fail
    go_round
    case rel => exact ⟨k + 1, by have := Hlt.out; omega, by go_num, HE⟩
    case measure => simp [intOf]; have := Hlt.out; omega
   ·have hx0 : x ≠ 0 := by rw [bne_iff_ne] at g0; exact g0
    have HE0 : (x == 0) = false := by rw [beq_eq_false_iff_ne]; exact hx0
    have HZ := Lib.hid (show lawB p (k + 1) = pcB x by rw [HS.out, HE0]; rfl)
    have HF := Lib.hid (fun h : pcB x = false => lawB_no (HZ.out.trans h) 64 (by have := Hlt.out; omega))
    clear HE0
    by_cases e1 : 15 < x
    ·have HQ := Lib.hid (HF.out (pcB_false.2 (by omega)))
     have g1 : decide (15 < x) = true := decide_eq_true e1
     clear e1 hx0
     go_wp2_with fail
     go_ret
     exact ⟨by unfold lawA; rw [HQ.out]; rfl, HB.out⟩
    ·have g1 : decide (15 < x) = false := decide_eq_false e1
     by_cases e2 : x % 8 < 1
     ·have HQ := Lib.hid (HF.out (pcB_false.2 (by omega)))
      have g2 : decide (x % 8 < 1) = true := decide_eq_true e2
      clear e1 hx0 e2
      go_wp2_with fail
      go_ret
      exact ⟨by unfold lawA; rw [HQ.out]; rfl, HB.out⟩
     ·have g2 : decide (x % 8 < 1) = false := decide_eq_false e2
      by_cases e3 : 6 < x % 8
      ·have HQ := Lib.hid (HF.out (pcB_false.2 (by omega)))
       have g3 : decide (6 < x % 8) = true := decide_eq_true e3
       clear e1 hx0 e2 e3
       go_wp2_with fail
       go_ret
       exact ⟨by unfold lawA; rw [HQ.out]; rfl, HB.out⟩
      ·have HE := Lib.hid (show lawB p (k + 1) = true by rw [HZ.out]; exact pcB_true.2 (by omega))
       have g3 : decide (6 < x % 8) = false := decide_eq_false e3
       clear e1 hx0 e2 e3
       go_wp2_with fail
       go_round
       case rel => exact ⟨k + 1, by have := Hlt.out; omega, by go_num, HE⟩
       case measure => simp [intOf]; have := Hlt.out; omega
  ·obtain rfl : k = 64 := by omega
   cases g0 : decide (p 78 < 2)
   ·go_wp2_with (first | (refine step_get rfl 5 _ rfl b1 78 rfl Tryz.underlying5 rfl (.int .u8 (p 78)) ?_ ?_; exact HR1.out.cell 78 (by decide)) | (refine step_get rfl 5 _ rfl b1 0 rfl Tryz.underlying5 rfl (.int .u8 (p 0)) ?_ ?_; exact HR1.out.cell 0 (by decide)) | (refine step_get rfl 26 _ rfl b1 83 rfl Tryz.underlying26 rfl (.int .i8 (p 83)) ?_ ?_; exact HR1.out.cell 83 (by decide)))
    go_ret
    exact ⟨by unfold lawA; rw [Hi.out, g0]; rfl, HB.out⟩
   ·cases g1 : decide (p 0 < 9)
    ·go_wp2_with (first | (refine step_get rfl 5 _ rfl b1 78 rfl Tryz.underlying5 rfl (.int .u8 (p 78)) ?_ ?_; exact HR1.out.cell 78 (by decide)) | (refine step_get rfl 5 _ rfl b1 0 rfl Tryz.underlying5 rfl (.int .u8 (p 0)) ?_ ?_; exact HR1.out.cell 0 (by decide)) | (refine step_get rfl 26 _ rfl b1 83 rfl Tryz.underlying26 rfl (.int .i8 (p 83)) ?_ ?_; exact HR1.out.cell 83 (by decide)))
     go_ret
     exact ⟨by unfold lawA; rw [Hi.out, g0, g1]; rfl, HB.out⟩
    ·cases g2 : decide (-1 ≤ p 83)
     ·go_wp2_with (first | (refine step_get rfl 5 _ rfl b1 78 rfl Tryz.underlying5 rfl (.int .u8 (p 78)) ?_ ?_; exact HR1.out.cell 78 (by decide)) | (refine step_get rfl 5 _ rfl b1 0 rfl Tryz.underlying5 rfl (.int .u8 (p 0)) ?_ ?_; exact HR1.out.cell 0 (by decide)) | (refine step_get rfl 26 _ rfl b1 83 rfl Tryz.underlying26 rfl (.int .i8 (p 83)) ?_ ?_; exact HR1.out.cell 83 (by decide)))
      go_ret
      exact ⟨by unfold lawA; rw [Hi.out, g0, g1, g2]; rfl, HB.out⟩
     ·cases g3 : decide (p 83 < 64)
      ·go_wp2_with (first | (refine step_get rfl 5 _ rfl b1 78 rfl Tryz.underlying5 rfl (.int .u8 (p 78)) ?_ ?_; exact HR1.out.cell 78 (by decide)) | (refine step_get rfl 5 _ rfl b1 0 rfl Tryz.underlying5 rfl (.int .u8 (p 0)) ?_ ?_; exact HR1.out.cell 0 (by decide)) | (refine step_get rfl 26 _ rfl b1 83 rfl Tryz.underlying26 rfl (.int .i8 (p 83)) ?_ ?_; exact HR1.out.cell 83 (by decide)))
       go_ret
       exact ⟨by unfold lawA; rw [Hi.out, g0, g1, g2, g3]; rfl, HB.out⟩
      ·go_wp2_with (first | (refine step_get rfl 5 _ rfl b1 78 rfl Tryz.underlying5 rfl (.int .u8 (p 78)) ?_ ?_; exact HR1.out.cell 78 (by decide)) | (refine step_get rfl 5 _ rfl b1 0 rfl Tryz.underlying5 rfl (.int .u8 (p 0)) ?_ ?_; exact HR1.out.cell 0 (by decide)) | (refine step_get rfl 26 _ rfl b1 83 rfl Tryz.underlying26 rfl (.int .i8 (p 83)) ?_ ?_; exact HR1.out.cell 83 (by decide)))
       go_ret
       exact ⟨by unfold lawA; rw [Hi.out, g0, g1, g2, g3]; rfl, HB.out⟩
end Go.Proofs.YtidgfadbdgheiaaGreatDoor
/-
 Layer 16: facts for AfterSquares: each move of the list may be made; its goals; which squares are named.
-/
namespace Go.Proofs.YtidgfadbdgheiaaGreatDoor
open Go.RowKit Go.Shelf
set_option linter.unusedVariables false
set_option linter.unusedSimpArgs false
attribute [local go_sem] Oper.semAt_some

theorem af_mem {p : Nat → Int} (hp : WfP p) {m : Mv} (h : m ∈ afL p) : m ∈ sorL p m := by
 unfold afL at h
 unfold sorL
 rcases List.mem_append.1 h with h | h
 ·rcases List.mem_append.1 h with h | h
  ·obtain ⟨a, b, k, _, _, _, _, _, rfl⟩ := all_is h
   exact h
  ·have e := (cam_at hp.dr.turn.1 h).2.2.2.1
   rw [e]; exact h
 ·obtain ⟨k, s, _, _, e, h4, _⟩ := drL_mem h
  have hk : k ≠ 0 := by
   rintro rfl
   have h0 := helC_0 p (p 78)
   rw [show ((0 : Nat) : Int) = 0 from rfl, h0] at h4
   cases h4
  have e1 : m.ca = false := by rw [e]; rfl
  have e2 : (m.dr == 0) = false := by rw [e]; exact beq_eq_false_iff_ne.2 (by show ((k : Nat) : Int) ≠ 0; omega)
  rw [e1, e2]; exact h
theorem af_mov {p : Nat → Int} (hp : WfP p) {m : Mv} (h : m ∈ afL p) : movB p m = true := by
 unfold movB
 exact List.any_eq_true.2 ⟨m, af_mem hp h, mvE_true.2 rfl⟩
theorem af_fit {p : Nat → Int} (hp : WfP p) {m : Mv} (h : m ∈ afL p) : FitV m := by
 obtain ⟨i, hi⟩ := List.getElem?_of_mem (af_mem hp h)
 exact sor_fit hp m i m hi
theorem af_len (p : Nat → Int) : (afL p).length ≤ 1000000 := by
 have h0 := all_len p
 have h1 := cam_lenA p
 have h2 := drL_len p
 unfold afL
 rw [List.length_append, List.length_append, List.length_map]; omega
def gKA (p : Nat → Int) (m : Mv) : Int := bif m.ca then hmC (p 78) + gkC (sdC (p 78) m) else 0
def gRA (p : Nat → Int) (m : Mv) : Int := bif m.ca then hmC (p 78) + grC (sdC (p 78) m) else 0
theorem goals_any (p : Nat → Int) (m : Mv) (w : World) (hm : FitV m) (hc : ChR p (begA p m)) (hG : TabGl w) : Calls Tryz.prog 15 #[.agg (posA p), .agg (mvA m)] w (GoalL (gKA p m) (gRA p m) m.ca w) := by
 unfold gKA gRA
 cases g : m.ca
 ·exact cs_goals_no p m w hm (by unfold sdC; rw [g]; rfl)
 ·obtain ⟨n, hn, hs⟩ := sd_nat hc g
  have hs : sdC (p 78) m = (n : Int) := hs
  rw [hs]
  exact cs_goals p m n hn w hm hs hG
theorem goalsA {p : Nat → Int} {m : Mv} {K R : Int} {b : Bool} (e1 : gKA p m = K) (e2 : gRA p m = R) (e3 : m.ca = b) (w : World) (hm : FitV m) (hc : ChR p (begA p m)) (hG : TabGl w) : Calls Tryz.prog 15 #[.agg (posA p), .agg (mvA m)] w (GoalL K R b w) := e1 ▸ e2 ▸ e3 ▸ goals_any p m w hm hc hG
theorem near_no1 {j t : Nat} (h : ¬ (j : Int) % 8 - (t : Int) % 8 ≤ 1) : nearB j t = false := by unfold nearB; rw [decide_eq_false (show ¬ j % 8 ≤ t % 8 + 1 by omega)]; simp
theorem near_no2 {j t : Nat} (h : ¬ (t : Int) % 8 - (j : Int) % 8 ≤ 1) : nearB j t = false := by unfold nearB; rw [decide_eq_false (show ¬ t % 8 ≤ j % 8 + 1 by omega)]; simp
theorem near_no3 {j t : Nat} (h : ¬ (j : Int) / 8 - (t : Int) / 8 ≤ 1) : nearB j t = false := by unfold nearB; rw [decide_eq_false (show ¬ j / 8 ≤ t / 8 + 1 by omega)]; simp
theorem near_no4 {j t : Nat} (h : ¬ (t : Int) / 8 - (j : Int) / 8 ≤ 1) : nearB j t = false := by unfold nearB; rw [decide_eq_false (show ¬ t / 8 ≤ j / 8 + 1 by omega)]; simp
theorem near_yes {j t : Nat} (h0 : ¬ j = t) (h1 : (j : Int) % 8 - (t : Int) % 8 ≤ 1) (h2 : (t : Int) % 8 - (j : Int) % 8 ≤ 1) (h3 : (j : Int) / 8 - (t : Int) / 8 ≤ 1) (h4 : (t : Int) / 8 - (j : Int) / 8 ≤ 1) : nearB j t = true := by
 unfold nearB
 rw [decide_eq_true (show j % 8 ≤ t % 8 + 1 by omega), decide_eq_true (show t % 8 ≤ j % 8 + 1 by omega), decide_eq_true (show j / 8 ≤ t / 8 + 1 by omega), decide_eq_true (show t / 8 ≤ j / 8 + 1 by omega), beq_eq_false_iff_ne.2 h0]; rfl
theorem lawK {p : Nat → Int} {b : Bool} (e : lawA p = b) (w : World) (hp : PsR p) : Calls Tryz.prog 12 #[.agg (posA p)] w (BoL b w) := e ▸ af_lawful p w hp
/-- Whether a square is named by a move. -/
def namB (v x f t j : Nat) (k K R : Int) (ok : Bool) : Bool :=
 decide (j = f) || (decide (j = t) || (decide ((j : Int) = k) || ((ok && (decide ((j : Int) = K) || decide ((j : Int) = R))) || (decide (v = 3) && (decide (0 ≤ k) && (nearB j t && !decide (x % 8 = 1)))))))
theorem nam_same {p : Nat → Int} (hp : WfP p) {m : Mv} (h : movB p m = true) {v x f t j : Nat} (hv : p 0 = (v : Int)) (hx : p (1 + j) = (x : Int)) (hf : m.f = (f : Int)) (ht : m.t = (t : Int)) (hj : j < 64) {k K R : Int} {ok : Bool} (hk : takZ p m = k) (hK : gKA p m = K) (hR : gRA p m = R) (ho : m.ca = ok)
  (hn : namB v x f t j k K R ok = false) : movP p m (1 + j) = p (1 + j) := by
 unfold namB at hn
 rw [Bool.or_eq_false_iff, Bool.or_eq_false_iff, Bool.or_eq_false_iff, Bool.or_eq_false_iff] at hn
 obtain ⟨n1, n2, n3, n4, n5⟩ := hn
 have n1 := of_decide_eq_false n1
 have n2 := of_decide_eq_false n2
 have n3 := of_decide_eq_false n3
 refine mov_bd hp h hj (by rw [hf]; omega) (by rw [ht]; omega) (by rw [hk]; exact n3) (fun hc => ?_) (fun h0 h1 h2 => ?_)
 ·rw [ho] at hc
  rw [hc, Bool.true_and, Bool.or_eq_false_iff] at n4
  have a := of_decide_eq_false n4.1
  have b := of_decide_eq_false n4.2
  have e1 : hmC (p 78) + gkC (sdC (p 78) m) = K := by rw [← hK]; unfold gKA; rw [ho, hc]; rfl
  have e2 : hmC (p 78) + grC (sdC (p 78) m) = R := by rw [← hR]; unfold gRA; rw [ho, hc]; rfl
  exact ⟨by rw [e1]; exact a, by rw [e2]; exact b⟩
 ·have hR' := (chR_of hp h).k
  have hk1 : -1 ≤ k := by rw [← hk]; exact hR'.1
  have hv3 : v = 3 := by rw [hv] at h0; omega
  have hk0 : 0 ≤ k := by rw [hk] at h1; omega
  have hn1 : nearB j t = true := by have := h2.1; rw [ht, Int.toNat_natCast] at this; exact this
  have hx1 : ¬ x % 8 = 1 := by have := h2.2; rw [hx] at this; omega
  rw [decide_eq_true hv3, decide_eq_true hk0, hn1, decide_eq_false hx1] at n5
  cases n5
end Go.Proofs.YtidgfadbdgheiaaGreatDoor
