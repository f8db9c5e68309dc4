/-
 Several texts in one: AtRefB, AtRefF, AtRefC, AtAwake.
-/
import Derived.Test.YtidgfadbdgheiaaGreatDoorAtHits
import Derived.Test.YtidgfadbdgheiaaGreatDoorAtCheck
import Derived.Test.YtidgfadbdgheiaaGreatDoorAfBaseK
import Derived.Test.YtidgfadbdgheiaaGreatDoorAfAtQ
import Derived.Test.YtidgfadbdgheiaaGreatDoorVaBaseA
import Derived.Test.YtidgfadbdgheiaaGreatDoorVaBaseB
/-
 Contracts of the document's own layer 8, second part: From, By, Find, King, Check, Checkers.
-/
set_option maxRecDepth 100000
set_option maxHeartbeats 1000000
namespace Go.Proofs.YtidgfadbdgheiaaGreatDoor
open Go.RowKit
set_option linter.unusedVariables false
set_option linter.unusedSimpArgs false

theorem or_one {out k : Nat} (ho : out < W64) (hk : k < 64) : bits .or .u64 (out : Int) (IntKind.u64.wrap (2 ^ k)) = ((putN out (k : Int) : Nat) : Int) := by
 rw [wrap_pow k hk, or_nat ho (by rw [W64_eq]; exact Nat.pow_lt_pow_right (by decide) hk), ← only_nat hk]; rfl
theorem setTo_all {f : Nat → Bool} {n : Nat} (hn : n < W64) (h : ∀ i, i < 64 → f i = n.testBit i) : setTo f 64 = n := by
 apply eq_of_bits (setTo_lt _ _) hn
 intro i hi
 rw [setTo_testBit _ _ _ (Nat.le_refl _)]; simp [hi, h i hi]
def byP (p : Nat → Int) (c : Int) (b i : Nat) : Bool := (kndZ (p (1 + i)) != 0) && ((p (1 + i) / 8 == c) && (fromN p (i : Int)).testBit b)
theorem by_all (p : Nat → Int) (c : Int) (hc : 0 ≤ c) (b : Nat) (hb : b < 64) : setTo (byP p c b) 64 = byN p (b : Int) c := by
 refine setTo_all (byN_lt _ _ _) fun i hi => ?_
 unfold byP
 have ho : ∀ c, (pcB (p (1 + i)) && (colZ (p (1 + i)) == c)) = ((kndZ (p (1 + i)) != 0) && (p (1 + i) / 8 == c)) := fun c => by
  cases h : pcB (p (1 + i))
  ·rw [kndZ_no h]; rfl
  ·have : (kndZ (p (1 + i)) != 0) = true := by rw [bne_iff_ne, kndZ_yes h]; rw [pcB_true] at h; omega
   rw [this, colZ_yes h]
 by_cases h1 : c ≤ 1
 ·rw [by_from p i b hi hb c hc h1, ofB_all, ho, Bool.and_assoc]
 ·rw [byN_col p _ (by omega), Nat.zero_testBit]
  cases h : pcB (p (1 + i))
  ·rw [kndZ_no h]; rfl
  ·have : (p (1 + i) / 8 == c) = false := by rw [beq_eq_false_iff_ne]; rw [pcB_true] at h; omega
   rw [this, Bool.false_and, Bool.and_false]
theorem rby_any (p : Nat → Int) (s c : Int) (w : World) (hp : BdR p) (hc : 0 ≤ c) : Calls Tryz.prog 147 #[.agg (posA p), .int .i64 s, .int .u8 c] w (U64L (byN p s c) w) := by
 cases hs : sq s
 ·have HZ := H_ (byN_no p c hs)
  by_cases h0 : 0 ≤ s
  ·have g0 : decide (0 ≤ s) = true := decide_eq_true h0
   have g1 : decide (s < 64) = false := decide_eq_false (by have := sq_false.1 hs; omega)
   clear hs h0 hp hc
   go_enter Tryz.func147, Tryz.ntmps147
   go_wp2_with (refine step_box rfl _ rfl p rfl ?_; intro b1 w1 N R; have HB := H_ N.below; clear N R)
   refine wp_loop_once ?_
   go_wp2_with fail
   go_ret
   exact ⟨by rw [HZ.out]; rfl, HB.out⟩
  ·have g0 : decide (0 ≤ s) = false := decide_eq_false h0
   clear hs h0 hp hc
   go_enter Tryz.func147, Tryz.ntmps147
   go_wp2_with (refine step_box rfl _ rfl p rfl ?_; intro b1 w1 N R; have HB := H_ N.below; clear N R)
   refine wp_loop_once ?_
   go_wp2_with fail
   go_ret
   exact ⟨by rw [HZ.out]; rfl, HB.out⟩
 ·obtain ⟨b, hb, rfl⟩ := nat_of_sq hs
  have HBb := H_ hb
  have HP := H_ hp
  have HE := H_ (by_all p c hc b hb)
  have l1 : decide ((b : Int) < 64) = true := decide_eq_true (by omega)
  have l2 : decide (0 ≤ (b : Int)) = true := decide_eq_true (by omega)
  clear hs hb hp hc
  go_enter Tryz.func147, Tryz.ntmps147
  go_wp2_with (refine step_box rfl _ rfl p rfl ?_; intro b1 w1 N R; have HB := H_ N.below; have HR1 := H_ R; clear N R)
  go_loopw [7, 8] (fun x i wr => ∃ k : Nat, k ≤ 64 ∧ i = .int .i64 (k : Int) ∧ x = .int .u64 (setTo (byP p c b) k : Nat) ∧ Below w.heap.size w wr ∧ Row wr b1 p) (fun _ i _ => 64 - (intOf i).toNat)
  case atStart => exact ⟨0, by omega, rfl, rfl, HB.out, HR1.out⟩
  case round =>
   obtain ⟨k, hk, rfl, rfl, hbw, hr⟩ := hrel
   have HB := H_ hbw
   have HR := H_ hr
   by_cases hlt : k < 64
   ·have Hlt := H_ hlt
    have HX := H_ (or_one (setTo_lt (byP p c b) k) hlt)
    have HY := H_ (setTo_yes (p := byP p c b) (k := k))
    have HN := H_ (setTo_no (p := byP p c b) (k := k))
    have gk : decide ((k : Int) < 64) = true := decide_eq_true (by omega)
    have l0 : (k : Int) ≤ 63 := by omega
    obtain ⟨x, HXx⟩ : ∃ x, Hid (p (1 + k) = x) := ⟨_, H_ rfl⟩
    have hcell := hr.cell (1 + k) (by omega)
    rw [HXx.out, kAt_board (by omega) hlt] at hcell
    have hx := HP.out k hlt
    rw [HXx.out] at hx
    have X0 := H_ hx
    have HD := H_ (show byP p c b k = ((kndZ x != 0) && ((x / 8 == c) && (fromN p (k : Int)).testBit b)) by unfold byP; rw [HXx.out])
    clear hbw hr hx hlt
    cases g1 : (kndZ x != 0)
    ·have HF := H_ (show byP p c b k = false by rw [HD.out, g1]; rfl)
     go_wp2_with fail
     refine (rkind_any x _ X0.out.1 X0.out.2).mono ?_; rintro e wn ⟨rfl, rfl⟩
     go_wp2_with fail
     go_roundw
     case rel => exact ⟨k + 1, by omega, by go_num, by rw [HN.out HF.out], HB.out, HR.out⟩
     case measure => simp [intOf]; omega
    ·cases g2 : (x / 8 == c)
     ·have HF := H_ (show byP p c b k = false by rw [HD.out, g1, g2]; rfl)
      go_wp2_with fail
      refine (rkind_any x _ X0.out.1 X0.out.2).mono ?_; rintro e wn ⟨rfl, rfl⟩
      go_wp2_with fail
      refine (rcolor_any x _ X0.out.1 X0.out.2).mono ?_; rintro e wn ⟨rfl, rfl⟩
      go_wp2_with fail
      go_roundw
      case rel => exact ⟨k + 1, by omega, by go_num, by rw [HN.out HF.out], HB.out, HR.out⟩
      case measure => simp [intOf]; omega
     ·obtain ⟨r, HRb⟩ : ∃ r, Hid ((fromN p (k : Int)).testBit b = r) := ⟨_, H_ rfl⟩
      have HF := H_ (show byP p c b k = r by rw [HD.out, g1, g2, HRb.out]; rfl)
      cases r
      ·go_wp2_with (refine step_load (by rfl) _ rfl _ rfl p HR.out ?_)
       refine (rkind_any x _ X0.out.1 X0.out.2).mono ?_; rintro e wn ⟨rfl, rfl⟩
       go_wp2_with (refine step_load (by rfl) _ rfl _ rfl p HR.out ?_)
       refine (rcolor_any x _ X0.out.1 X0.out.2).mono ?_; rintro e wn ⟨rfl, rfl⟩
       go_wp2_with (refine step_load (by rfl) _ rfl _ rfl p HR.out ?_)
       refine (rhits_any p k b _ HP.out Hlt.out HBb.out).mono ?_; rintro e wn ⟨rfl, hb9⟩; rw [HRb.out]; have HR := H_ (HR.out.later hb9); have HB := H_ (below_on HB.out hb9); clear hb9
       go_wp2_with fail
       go_roundw
       case rel => exact ⟨k + 1, by omega, by go_num, by rw [HN.out HF.out], HB.out, HR.out⟩
       case measure => simp [intOf]; omega
      ·go_wp2_with (refine step_load (by rfl) _ rfl _ rfl p HR.out ?_)
       refine (rkind_any x _ X0.out.1 X0.out.2).mono ?_; rintro e wn ⟨rfl, rfl⟩
       go_wp2_with (refine step_load (by rfl) _ rfl _ rfl p HR.out ?_)
       refine (rcolor_any x _ X0.out.1 X0.out.2).mono ?_; rintro e wn ⟨rfl, rfl⟩
       go_wp2_with (refine step_load (by rfl) _ rfl _ rfl p HR.out ?_)
       refine (rhits_any p k b _ HP.out Hlt.out HBb.out).mono ?_; rintro e wn ⟨rfl, hb9⟩; rw [HRb.out]; have HR := H_ (HR.out.later hb9); have HB := H_ (below_on HB.out hb9); clear hb9 hcell
       go_wp2_with fail
       go_roundw
       case rel => exact ⟨k + 1, by omega, by go_num, by rw [HY.out HF.out, ← HX.out], HB.out, HR.out⟩
       case measure => simp [intOf]; omega
   ·obtain rfl : k = 64 := by omega
    clear hbw hr
    go_wp2_with fail
    go_ret
    exact ⟨by rw [← HE.out]; rfl, HB.out⟩
end Go.Proofs.YtidgfadbdgheiaaGreatDoor
/-
 Contract of the document's own Find, of kings.
-/
namespace Go.Proofs.YtidgfadbdgheiaaGreatDoor
open Go.RowKit
set_option linter.unusedVariables false
set_option linter.unusedSimpArgs false

theorem is_of (c x : Int) : (kndZ x == 6 && x / 8 == c) = ofB c 6 x := by
 unfold ofB
 cases h : pcB x
 ·rw [kndZ_no h]; rfl
 ·rw [colZ_yes h]
  simp only [Bool.true_and, show ((6 : Int) == 0) = false from rfl, Bool.false_or]
  exact Bool.and_comm _ _
theorem first_at {n j : Nat} (hn : n < W64) (hj : n.testBit j = true) (h : ∀ i, i < j → n.testBit i = false) : firstN n = (j : Int) := by
 have h0 : n ≠ 0 := by rintro rfl; rw [Nat.zero_testBit] at hj; cases hj
 obtain ⟨e, _, he, h1, h2⟩ := first_spec h0 hn
 have := h2 j hj
 have : ¬ e < j := fun g => by have := h e g; rw [h1] at this; cases this
 rw [he]; omega
theorem first_none {n : Nat} (hn : n < W64) (h : ∀ i, i < 64 → n.testBit i = false) : firstN n = -1 := by
 have : n = 0 := eq_of_bits hn (by decide) fun i hi => by rw [h i hi, Nat.zero_testBit]
 rw [this]; exact firstN_zero
theorem rfind_any (p : Nat → Int) (c : Int) (w : World) (hp : BdR p) : Calls Tryz.prog 99 #[.agg (posA p), .int .u8 c, .int .u8 6] w (IntL (kingZ p c) w) := by
 have HP := H_ hp
 clear hp
 go_enter Tryz.func99, Tryz.ntmps99
 go_wp2_with (refine step_box rfl _ rfl p rfl ?_; intro b1 w1 N R; have HB := H_ N.below; have HR1 := H_ R; clear N R)
 go_loopw [7] (fun i wr => ∃ k : Nat, k ≤ 64 ∧ i = .int .i64 (k : Int) ∧ Hid (∀ j, j < k → (ofN p c 6).testBit j = false) ∧ Below w.heap.size w wr ∧ Row wr b1 p) (fun i _ => 64 - (intOf i).toNat)
 case atStart => exact ⟨0, by omega, rfl, H_ (fun j h => by omega), HB.out, HR1.out⟩
 case round =>
  obtain ⟨k, hk, rfl, Hi, hb, hr⟩ := hrel
  have HB := H_ hb
  have HR := H_ hr
  clear hb hr
  by_cases hlt : k < 64
  ·have Hlt := H_ hlt
   have gk : decide ((k : Int) < 64) = true := decide_eq_true (by omega)
   obtain ⟨r, HRb⟩ : ∃ r, Hid ((kndZ (p (1 + k)) == 6 && p (1 + k) / 8 == c) = r) := ⟨_, H_ rfl⟩
   have HT := H_ (show (ofN p c 6).testBit k = r by rw [ofN_testBit _ _ _ _ hlt, ← is_of]; exact HRb.out)
   clear hlt
   cases r
   ·go_wp2_with (refine step_load (by rfl) _ rfl _ rfl p HR.out ?_)
    refine (ris_any p k c 6 _ HP.out Hlt.out).mono ?_; rintro e wn ⟨rfl, hb9⟩; rw [HRb.out]; have HR := H_ (HR.out.later hb9); have HB := H_ (below_on HB.out hb9); clear hb9
    go_wp2_with fail
    go_roundw
    case rel => exact ⟨k + 1, by have := Hlt.out; omega, by go_num, H_ (fun j h => by
     by_cases e : j = k
     ·rw [e]; exact HT.out
     ·exact Hi.out j (by omega)), HB.out, HR.out⟩
    case measure => simp [intOf]; have := Hlt.out; omega
   ·have HZ := H_ (show kingZ p c = (k : Int) from first_at (ofN_lt _ _ _) HT.out Hi.out)
    go_wp2_with (refine step_load (by rfl) _ rfl _ rfl p HR.out ?_)
    refine (ris_any p k c 6 _ HP.out Hlt.out).mono ?_; rintro e wn ⟨rfl, hb9⟩; rw [HRb.out]; have HB := H_ (below_on HB.out hb9); clear hb9
    go_wp2_with fail
    go_ret
    exact ⟨by rw [HZ.out]; rfl, HB.out⟩
  ·obtain rfl : k = 64 := by omega
   have HZ := H_ (show kingZ p c = -1 from first_none (ofN_lt _ _ _) Hi.out)
   go_wp2_with fail
   go_ret
   exact ⟨by rw [HZ.out]; rfl, HB.out⟩

end Go.Proofs.YtidgfadbdgheiaaGreatDoor
/-
 Contracts of the document's own layer 8, third part: Find, King, Check, Checkers.
-/
namespace Go.Proofs.YtidgfadbdgheiaaGreatDoor
open Go.RowKit
set_option linter.unusedVariables false
set_option linter.unusedSimpArgs false

end Go.Proofs.YtidgfadbdgheiaaGreatDoor
/-
 Layer 8's none, awake, lawful; contracts at known answers.
-/
namespace Go.Proofs.YtidgfadbdgheiaaGreatDoor
open Go.RowKit
set_option linter.unusedVariables false
set_option linter.unusedSimpArgs false
theorem AtR.of {p : Nat → Int} (h : WfP p) : AtR p := by
 have hu : ∀ j, j < 88 → kAt j = .u8 → 0 ≤ p j ∧ p j ≤ 255 := fun j hj hk => by
  have := h j hj; rw [hk] at this
  exact u8_rng this
 exact ⟨fun i hi => hu _ (by omega) (kAt_board (by omega) hi), hu 0 (by omega) rfl, hu 78 (by omega) rfl⟩
theorem AtR.put {p : Nat → Int} (h : AtR p) (i : Nat) (x : Int) (hx : 0 ≤ x ∧ x ≤ 255) : AtR (upd p i x) := by
 have key : ∀ j, (0 ≤ p j ∧ p j ≤ 255) → 0 ≤ upd p i x j ∧ upd p i x j ≤ 255 := fun j hj => by unfold upd; split; { exact hx }; { exact hj }
 exact ⟨fun j hj => key _ (h.bd j hj), key _ h.var, key _ h.turn⟩
end Go.Proofs.YtidgfadbdgheiaaGreatDoor
