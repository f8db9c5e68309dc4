/-
 Layer 16: the contract of the document's own Blown.
-/
import Derived.Test.YtidgfadbdgheiaaGreatDoorAfGrE
import Derived.Test.YtidgfadbdgheiaaGreatDoorAtRefB
namespace Go.Proofs.YtidgfadbdgheiaaGreatDoor
open Go.RowKit Go.Shelf
set_option linter.unusedVariables false
set_option linter.unusedSimpArgs false
attribute [local go_sem] Oper.semAt_some

/-- Is the square blown up by a take on t? -/
def hitB (p : Nat → Int) (t k : Nat) : Bool := decide (k = t) || (besB k t && (!(kndZ (p (1 + k)) == 0) && !(kndZ (p (1 + k)) == 1)))
def blT (p : Nat → Int) (t : Nat) : Nat → Nat
 | 0 => 0
 | k + 1 => bif hitB p t k then putN (blT p t k) (k : Int) else blT p t k
theorem blT_lt (p : Nat → Int) (t : Nat) : ∀ k, blT p t k < W64
 | 0 => show (0 : Nat) < W64 by decide
 | k + 1 => by
  unfold blT
  cases hitB p t k
  ·exact blT_lt p t k
  ·exact putN_lt (blT_lt p t k) _
theorem blT_bit (p : Nat → Int) (t : Nat) : ∀ k, k ≤ 64 → ∀ i, (blT p t k).testBit i = (decide (i < k) && hitB p t i)
 | 0, _, i => by show Nat.testBit 0 i = _; rw [Nat.zero_testBit]; simp
 | k + 1, hk, i => by
  have ih := blT_bit p t k (by omega) i
  unfold blT
  by_cases e : i = k
  ·subst e
   cases h : hitB p t i
   ·rw [cond_false, ih]; simp [h]
   ·rw [cond_true, putN_testBit, sq_true.2 ⟨by omega, by omega⟩]; simp
  ·have e1 : decide (i < k + 1) = decide (i < k) := by rw [Bool.eq_iff_iff, decide_eq_true_eq, decide_eq_true_eq]; omega
   rw [e1, ← ih]
   cases h : hitB p t k
   ·rfl
   ·rw [cond_true, putN_testBit]
    have e2 : decide ((k : Int) = (i : Int)) = false := decide_eq_false (by omega)
    rw [e2]; simp
def nbB (s t : Nat) : Bool := nearB s t == besB s t
theorem nb_all : ∀ s : Nat, s < 64 → ∀ t : Nat, t < 64 → nbB s t = true := by decide +kernel
theorem knd_paw (x : Int) : (!(kndZ x == 0) && !(kndZ x == 1)) = (pcB x && !((x == 1) || (x == 9))) := by
 cases h : pcB x
 ·rw [kndZ_no h]; rfl
 ·have h1 := pcB_true.1 h
  rw [kndZ_yes h, Bool.eq_iff_iff]
  simp only [Bool.true_and, Bool.and_eq_true, Bool.not_eq_true', Bool.or_eq_false_iff, beq_eq_false_iff_ne]
  omega
theorem blT_all (p : Nat → Int) {t : Nat} (ht : t < 64) : blT p t 64 = blwN p (t : Int) :=
 eq_of_bits (blT_lt p t 64) (blw_lt p _) fun i hi => by
  rw [blT_bit p t 64 (by omega), blw_bit p hi ht, decide_eq_true hi, Bool.true_and]
  unfold hitB
  rw [knd_paw, ← eq_of_beq (nb_all i hi t ht)]
theorem kingN_far {s : Int} (h : sq s = false) : kingN s = 0 := by
 have := atkN_no 0 6 (s := s) 0 h
 exact this
theorem blw_far {p : Nat → Int} {s : Int} (h : sq s = false) : blwN p s = 0 := by
 refine eq_of_bits (blw_lt p s) (by decide) fun i hi => ?_
 unfold blwN
 rw [putN_testBit, h, kingN_far h, Nat.zero_and]
 show ((offN 0 (pawP p)).testBit i || (false && _)) = _
 rw [offN_testBit, Nat.zero_testBit]; rfl
theorem blT_yes {p : Nat → Int} {t k : Nat} (h : hitB p t k = true) : blT p t (k + 1) = putN (blT p t k) (k : Int) := by show (bif hitB p t k then _ else _) = _; rw [h]; rfl
theorem blT_no {p : Nat → Int} {t k : Nat} (h : hitB p t k = false) : blT p t (k + 1) = blT p t k := by show (bif hitB p t k then _ else _) = _; rw [h]; rfl
set_option maxRecDepth 100000 in
set_option maxHeartbeats 4000000 in
theorem rblown_any (p : Nat → Int) (s : Int) (w : World) (hp : BdR p) : Calls Tryz.prog 11 #[.agg (posA p), .int .i64 s] w (U64L (blwN p s) w) := by
 have HP := Lib.hid hp
 clear hp
 have HB := Lib.hid (Below.refl w.heap.size w)
 cases hs : sq s
 ·rw [blw_far hs]
  have hn : ¬ (0 ≤ s ∧ s < 64) := fun h => by rw [sq_true.2 h] at hs; cases hs
  clear hs
  by_cases h0 : 0 ≤ s
  ·have h1 : ¬ s < 64 := fun h => hn ⟨h0, h⟩
   go_enter Tryz.func11, Tryz.ntmps11
   go_wp2_with (refine step_box rfl _ rfl p rfl ?_; intro b2 w1 N R; have HB := Lib.hid (below_on HB.out N.below); have HR2 := Lib.hid R; clear N R)
   go_loopw [5, 6] (fun v i wr => v = .int .u64 0 ∧ i = .int .i64 0 ∧ Below w.heap.size w wr) (fun _ _ _ => 0)
   case atStart => exact ⟨rfl, rfl, HB.out⟩
   case round =>
    clear HB HR2
    obtain ⟨rfl, rfl, hb⟩ := hrel
    have HB := Lib.hid hb
    clear hb
    go_wp2_with fail
    go_ret
    exact ⟨rfl, HB.out⟩
  ·have h1 : ¬ (0 : Int) ≤ s := h0
   go_enter Tryz.func11, Tryz.ntmps11
   go_wp2_with (refine step_box rfl _ rfl p rfl ?_; intro b2 w1 N R; have HB := Lib.hid (below_on HB.out N.below); have HR2 := Lib.hid R; clear N R)
   go_loopw [5, 6] (fun v i wr => v = .int .u64 0 ∧ i = .int .i64 0 ∧ Below w.heap.size w wr) (fun _ _ _ => 0)
   case atStart => exact ⟨rfl, rfl, HB.out⟩
   case round =>
    clear HB HR2
    obtain ⟨rfl, rfl, hb⟩ := hrel
    have HB := Lib.hid hb
    clear hb
    go_wp2_with fail
    go_ret
    exact ⟨rfl, HB.out⟩
 ·obtain ⟨t, ht, rfl⟩ := nat_of_sq hs
  clear hs
  rw [← blT_all p ht]
  have g1 : (0 : Int) ≤ (t : Int) := by omega
  have g2 : (t : Int) < 64 := by omega
  go_enter Tryz.func11, Tryz.ntmps11
  go_wp2_with (refine step_box rfl _ rfl p rfl ?_; intro b2 w1 N R; have HB := Lib.hid (below_on HB.out N.below); have HR2 := Lib.hid R; clear N R)
  go_loopw [5, 6] (fun v i wr => ∃ k : Nat, k ≤ 64 ∧ i = .int .i64 (k : Int) ∧ v = .int .u64 ((blT p t k : Nat) : Int) ∧ Row wr b2 p ∧ Below w.heap.size w wr) (fun _ i _ => 64 - (intOf i).toNat)
  case atStart => exact ⟨0, by omega, rfl, rfl, HR2.out, HB.out⟩
  case round =>
   clear HB HR2
   obtain ⟨k, hk, rfl, rfl, hr, hb⟩ := hrel
   have HR2 := Lib.hid hr
   have HB := Lib.hid hb
   clear hr hb
   by_cases hlt : k < 64
   ·have HI := Lib.hid (show 1 + k < 88 by omega)
    obtain ⟨x, hx⟩ : ∃ x, p (1 + k) = x := ⟨_, rfl⟩
    have h0 : 0 ≤ x := hx ▸ (HP.out k hlt).1
    have h1 : x ≤ 255 := hx ▸ (HP.out k hlt).2
    have HXc := Lib.hid (show some (Value.int (kAt (1 + k)) (p (1 + k))) = some (.int .u8 x) by rw [hx, kAt_board (Nat.zero_le _) hlt])
    have HP0 := Lib.hid hx
    clear hx
    obtain ⟨d, hd⟩ : ∃ d, kndZ x = d := ⟨_, rfl⟩
    have HKd := Lib.hid hd
    have hlb := blT_lt p t k
    obtain ⟨B, hB⟩ : ∃ B, blT p t k = B := ⟨_, rfl⟩
    rw [hB] at hlb ⊢
    have HBe := Lib.hid hB
    have HOr := Lib.hid (or_one hlb hlt)
    clear hd hB hlb
    have hk3 : (k : Int) < 64 := by omega
    cases e1 : ((k : Int) == (t : Int))
    ·have e1' : k ≠ t := fun e => by rw [e] at e1; simp at e1
     have hkt : decide (k = t) = false := decide_eq_false e1'
     have e1n : (k : Int) ≠ (t : Int) := beq_eq_false_iff_ne.1 e1
     cases e2 : besB k t
     ·have HBs := Lib.hid e2
      have HH := Lib.hid (show hitB p t k = false by unfold hitB; rw [HP0.out, hkt, e2]; rfl)
      clear e2
      go_wp2_with (first
       | (guard_target = Go.wpList _ _ _ ((⟨some 23, .load _ (.tmp 22), _, _, _, _⟩ : Go.Oper) :: _) _ _; refine step_get rfl 5 _ rfl b2 (1 + k) rfl Tryz.underlying5 rfl (.int .u8 x) ((HR2.out.cell (1 + k) HI.out).trans HXc.out) ?_)
       | (go_at_call 28; refine (rkind_any x _ h0 h1).mono ?_; rintro e w3 ⟨rfl, rfl⟩; rw [HKd.out])
       | (go_at_call 29; refine (rbeside_any k t _ hlt ht).mono ?_; rintro e w3 ⟨rfl, rfl⟩; rw [HBs.out]))
      go_roundw
      case rel => exact ⟨k + 1, by omega, by go_num, by rw [blT_no HH.out, HBe.out], HR2.out, HB.out⟩
      case measure => simp [intOf]; omega
     ·have HBs := Lib.hid e2
      cases e3 : (d == 0)
      ·have e3n : d ≠ 0 := beq_eq_false_iff_ne.1 e3
       cases e4 : (d == 1)
       ·have e4n : d ≠ 1 := beq_eq_false_iff_ne.1 e4
        have HH := Lib.hid (show hitB p t k = true by unfold hitB; rw [HP0.out, hkt, e2, HKd.out, e3, e4]; rfl)
        clear e2
        go_wp2_with (first
         | (guard_target = Go.wpList _ _ _ ((⟨some 23, .load _ (.tmp 22), _, _, _, _⟩ : Go.Oper) :: _) _ _; refine step_get rfl 5 _ rfl b2 (1 + k) rfl Tryz.underlying5 rfl (.int .u8 x) ((HR2.out.cell (1 + k) HI.out).trans HXc.out) ?_)
         | (go_at_call 28; refine (rkind_any x _ h0 h1).mono ?_; rintro e w3 ⟨rfl, rfl⟩; rw [HKd.out])
         | (go_at_call 29; refine (rbeside_any k t _ hlt ht).mono ?_; rintro e w3 ⟨rfl, rfl⟩; rw [HBs.out]))
        go_roundw
        case rel => exact ⟨k + 1, by omega, by go_num, by rw [blT_yes HH.out, HBe.out, ← HOr.out], HR2.out, HB.out⟩
        case measure => simp [intOf]; omega
       ·have e4n : d = 1 := eq_of_beq e4
        have HH := Lib.hid (show hitB p t k = false by unfold hitB; rw [HP0.out, hkt, e2, HKd.out, e3, e4]; rfl)
        clear e2
        go_wp2_with (first
         | (guard_target = Go.wpList _ _ _ ((⟨some 23, .load _ (.tmp 22), _, _, _, _⟩ : Go.Oper) :: _) _ _; refine step_get rfl 5 _ rfl b2 (1 + k) rfl Tryz.underlying5 rfl (.int .u8 x) ((HR2.out.cell (1 + k) HI.out).trans HXc.out) ?_)
         | (go_at_call 28; refine (rkind_any x _ h0 h1).mono ?_; rintro e w3 ⟨rfl, rfl⟩; rw [HKd.out])
         | (go_at_call 29; refine (rbeside_any k t _ hlt ht).mono ?_; rintro e w3 ⟨rfl, rfl⟩; rw [HBs.out]))
        go_roundw
        case rel => exact ⟨k + 1, by omega, by go_num, by rw [blT_no HH.out, HBe.out], HR2.out, HB.out⟩
        case measure => simp [intOf]; omega
      ·have e3n : d = 0 := eq_of_beq e3
       have HH := Lib.hid (show hitB p t k = false by unfold hitB; rw [HP0.out, hkt, e2, HKd.out, e3]; rfl)
       clear e2
       go_wp2_with (first
        | (guard_target = Go.wpList _ _ _ ((⟨some 23, .load _ (.tmp 22), _, _, _, _⟩ : Go.Oper) :: _) _ _; refine step_get rfl 5 _ rfl b2 (1 + k) rfl Tryz.underlying5 rfl (.int .u8 x) ((HR2.out.cell (1 + k) HI.out).trans HXc.out) ?_)
        | (go_at_call 28; refine (rkind_any x _ h0 h1).mono ?_; rintro e w3 ⟨rfl, rfl⟩; rw [HKd.out])
        | (go_at_call 29; refine (rbeside_any k t _ hlt ht).mono ?_; rintro e w3 ⟨rfl, rfl⟩; rw [HBs.out]))
       go_roundw
       case rel => exact ⟨k + 1, by omega, by go_num, by rw [blT_no HH.out, HBe.out], HR2.out, HB.out⟩
       case measure => simp [intOf]; omega
    ·obtain rfl : k = t := by have := eq_of_beq e1; omega
     have hkt : decide (k = k) = true := decide_eq_true rfl
     have HH := Lib.hid (show hitB p k k = true by unfold hitB; rw [HP0.out, hkt]; rfl)
     go_wp2_with (first
      | (guard_target = Go.wpList _ _ _ ((⟨some 23, .load _ (.tmp 22), _, _, _, _⟩ : Go.Oper) :: _) _ _; refine step_get rfl 5 _ rfl b2 (1 + k) rfl Tryz.underlying5 rfl (.int .u8 x) ((HR2.out.cell (1 + k) HI.out).trans HXc.out) ?_)
      | (go_at_call 28; refine (rkind_any x _ h0 h1).mono ?_; rintro e w3 ⟨rfl, rfl⟩; rw [HKd.out])
      | (go_at_call 29; refine (rbeside_any k t _ hlt ht).mono ?_; rintro e w3 ⟨rfl, rfl⟩; rw [HBs.out]))
     go_roundw
     case rel => exact ⟨k + 1, by omega, by go_num, by rw [blT_yes HH.out, HBe.out, ← HOr.out], HR2.out, HB.out⟩
     case measure => simp [intOf]; omega
   ·obtain rfl : k = 64 := by omega
    go_wp2_with fail
    go_ret
    exact ⟨rfl, HB.out⟩
theorem rblownK {p : Nat → Int} {s : Int} {n : Nat} (e : blwN p s = n) (w : World) (hp : BdR p) : Calls Tryz.prog 11 #[.agg (posA p), .int .i64 s] w (U64L n w) := e ▸ rblown_any p s w hp
end Go.Proofs.YtidgfadbdgheiaaGreatDoor
