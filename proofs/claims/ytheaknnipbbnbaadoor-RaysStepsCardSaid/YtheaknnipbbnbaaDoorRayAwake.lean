/-
  The chapter's examples of layer 3, as the statements' own function 'awake' asks them; contracts at known answers.
-/
import Derived.Test.YtheaknnipbbnbaaDoorRayLine
import Derived.Test.YtheaknnipbbnbaaDoorRayLaw
import Derived.Test.YtheaknnipbbnbaaDoorSqDist
namespace Go.Proofs.YtheaknnipbbnbaaDoor
open Go.RowKit

theorem below_on {w a b : World} (h : Below w.heap.size w a) (k : Below a.heap.size a b) : Below w.heap.size w b := h.trans (k.mono h.size)
def TrueL (w : World) (e : Ending) (w' : World) : Prop := e = .returned (.bool true) ∧ Below w.heap.size w w'
def IntL (k : IntKind) (r : Int) (w : World) (e : Ending) (w' : World) : Prop := e = .returned (.int k r) ∧ Below w.heap.size w w'
def IntS (k : IntKind) (r : Int) (w : World) (e : Ending) (w' : World) : Prop := e = .returned (.int k r) ∧ w = w'
theorem king_i {s r : Int} (w : World) (hT : TabLead w) (hr : ((kingN s : Nat) : Int) = r) : Calls Tryd.prog 11 #[.int .i64 s] w (IntL .u64 r w) := by
  subst hr; exact king_any s w hT
theorem knight_i {s r : Int} (w : World) (hT : TabLead w) (hr : ((knightN s : Nat) : Int) = r) : Calls Tryd.prog 13 #[.int .i64 s] w (IntL .u64 r w) := by
  subst hr; exact knight_any s w hT
theorem pawn_i {c s r : Int} (w : World) (hT : TabLead w) (hc : 0 ≤ c) (hr : ((pawnN c s : Nat) : Int) = r) : Calls Tryd.prog 15 #[.int .u8 c, .int .i64 s] w (IntL .u64 r w) := by
  subst hr; exact pawn_any c s w hT hc
theorem ray_i {s d r : Int} (w : World) (hT : TabLead w) (hr : ((rayN s d : Nat) : Int) = r) : Calls Tryd.prog 17 #[.int .i64 s, .int .i64 d] w (IntL .u64 r w) := by
  subst hr; exact ray_any s d w hT
theorem between_i {a b r : Int} (w : World) (hT : TabLead w) (hr : ((betweenN a b : Nat) : Int) = r) : Calls Tryd.prog 19 #[.int .i64 a, .int .i64 b] w (IntL .u64 r w) := by
  subst hr; exact between_any a b w hT
theorem line_i {a b r : Int} (w : World) (hT : TabLead w) (hr : ((lineN a b : Nat) : Int) = r) : Calls Tryd.prog 21 #[.int .i64 a, .int .i64 b] w (IntL .u64 r w) := by
  subst hr; exact line_any a b w hT
theorem put_k {a s r : Int} (b : Nat) (ha : (b : Int) = a) (hb : b < W64) (hr : ((putN b s : Nat) : Int) = r) (w : World) : Calls Tryd.prog 29 #[.int .u64 a, .int .i64 s] w (IntS .u64 r w) := by
  subst ha hr; exact put_any b s w hb
theorem count_k {a r : Int} (b : Nat) (ha : (b : Int) = a) (hb : b < W64) (hr : (((listN b).length : Nat) : Int) = r) (w : World) : Calls Tryd.prog 25 #[.int .u64 a] w (IntS .i64 r w) := by
  subst ha hr; exact count_any b w hb
theorem of_any2 (a b : Int) (w : World) : Calls Tryd.prog 46 #[.int .i64 a, .int .i64 b] w (IntS .u64 ((putN (putN 0 a) b : Nat) : Int) w) := by
  go_enter Tryd.func46, Tryd.ntmps46
  go_wp2_with fail
  refine (put_any 0 a _ (by decide)).mono ?_; rintro e w' ⟨rfl, rfl⟩
  go_wp2_with fail
  refine (put_any _ _ _ (putN_lt (by decide) _)).mono ?_; rintro e w' ⟨rfl, rfl⟩
  go_wp2
  go_ret
  exact ⟨rfl, rfl⟩
theorem of_k {a b r : Int} (w : World) (hr : ((putN (putN 0 a) b : Nat) : Int) = r) : Calls Tryd.prog 46 #[.int .i64 a, .int .i64 b] w (IntS .u64 r w) := by
  subst hr; exact of_any2 a b w

theorem u8_rng {a : Int} (h : (Lit.int .u8 a).wf = true) : 0 ≤ a ∧ a ≤ 255 := by
  simp [Lit.wf] at h
  have m : IntKind.u8.min = 0 := by decide
  have n : IntKind.u8.max = 255 := by decide
  omega
/-- A direction out of any number, as the statements make it. -/
theorem dir8 (a : Int) : ∃ d : Nat, d < 8 ∧ wrap64 ((IntKind.u64.wrap a).tmod 8) = (d : Int) := by
  have h0 : 0 ≤ IntKind.u64.wrap a := wrap_u64_nonneg a
  refine ⟨(IntKind.u64.wrap a % 8).toNat, by omega, ?_⟩
  rw [Int.tmod_eq_emod_of_nonneg h0, IntWalk.wrap64_in _ ⟨by omega, by omega⟩]
  omega
theorem turn8 (d : Nat) (h : d < 8) : (12 - (d : Int)) % 8 = (((12 - d) % 8 : Nat) : Int) := by omega
theorem distZ_rng (a b : Int) : -1 ≤ distZ a b ∧ distZ a b ≤ 7 := by
  cases h : sqB a && sqB b
  · rw [distZ_no h]; omega
  · rw [distZ_yes h]
    rw [Bool.and_eq_true, sqB_true, sqB_true] at h
    unfold gapZ
    split <;> split <;> split <;> omega

set_option maxRecDepth 100000 in
set_option maxHeartbeats 2000000 in
theorem ray_awake (w : World) (hT : TabLead w) : Calls Tryd.prog 23 #[] w (TrueL w) := by
  have HT0 := Lib.hid hT
  have HB0 := Lib.hid (Below.refl w.heap.size w)
  clear hT
  go_enter Tryd.func23, Tryd.ntmps23
  go_wp2_with fail
  refine (knight_i (r := 132096) _ HT0.out (by decide +kernel)).mono ?_; rintro e w1 ⟨rfl, hb1⟩
  have HB1 := Lib.hid (below_on HB0.out hb1); have HT1 := Lib.hid (HT0.out.next hb1); clear hb1
  go_wp2_with fail
  refine (of_k (r := 132096) _ (by decide +kernel)).mono ?_; rintro e w' ⟨rfl, rfl⟩
  go_wp2_with fail
  refine (king_i (r := 4665729213955833856) _ HT1.out (by decide +kernel)).mono ?_; rintro e w2 ⟨rfl, hb2⟩
  have HB2 := Lib.hid (below_on HB1.out hb2); have HT2 := Lib.hid (HT1.out.next hb2); clear hb2
  go_wp2_with fail
  refine (of_k (r := 54043195528445952) _ (by decide +kernel)).mono ?_; rintro e w' ⟨rfl, rfl⟩
  go_wp2_with fail
  refine (put_k (r := 4665729213955833856) 54043195528445952 rfl (by decide) (by decide +kernel) _).mono ?_; rintro e w' ⟨rfl, rfl⟩
  go_wp2_with fail
  refine (pawn_i (r := 131072) _ HT2.out (by decide) (by decide +kernel)).mono ?_; rintro e w3 ⟨rfl, hb3⟩
  have HB3 := Lib.hid (below_on HB2.out hb3); have HT3 := Lib.hid (HT2.out.next hb3); clear hb3
  go_wp2_with fail
  refine (put_k (r := 131072) 0 rfl (by decide) (by decide +kernel) _).mono ?_; rintro e w' ⟨rfl, rfl⟩
  go_wp2_with fail
  refine (pawn_i (r := 2621440) _ HT3.out (by decide) (by decide +kernel)).mono ?_; rintro e w4 ⟨rfl, hb4⟩
  have HB4 := Lib.hid (below_on HB3.out hb4); have HT4 := Lib.hid (HT3.out.next hb4); clear hb4
  go_wp2_with fail
  refine (of_k (r := 2621440) _ (by decide +kernel)).mono ?_; rintro e w' ⟨rfl, rfl⟩
  go_wp2_with fail
  refine (pawn_i (r := 0) _ HT4.out (by decide) (by decide +kernel)).mono ?_; rintro e w5 ⟨rfl, hb5⟩
  have HB5 := Lib.hid (below_on HB4.out hb5); have HT5 := Lib.hid (HT4.out.next hb5); clear hb5
  go_wp2_with fail
  refine (ray_i (r := 9241421688590303744) _ HT5.out (by decide +kernel)).mono ?_; rintro e w6 ⟨rfl, hb6⟩
  have HB6 := Lib.hid (below_on HB5.out hb6); have HT6 := Lib.hid (HT5.out.next hb6); clear hb6
  go_wp2_with fail
  refine (count_k (r := 7) 9241421688590303744 rfl (by decide) (by decide +kernel) _).mono ?_; rintro e w' ⟨rfl, rfl⟩
  go_wp2_with fail
  refine (ray_i (r := 0) _ HT6.out (by decide +kernel)).mono ?_; rintro e w7 ⟨rfl, hb7⟩
  have HB7 := Lib.hid (below_on HB6.out hb7); have HT7 := Lib.hid (HT6.out.next hb7); clear hb7
  go_wp2_with fail
  refine (between_i (r := 262656) _ HT7.out (by decide +kernel)).mono ?_; rintro e w8 ⟨rfl, hb8⟩
  have HB8 := Lib.hid (below_on HB7.out hb8); have HT8 := Lib.hid (HT7.out.next hb8); clear hb8
  go_wp2_with fail
  refine (of_k (r := 262656) _ (by decide +kernel)).mono ?_; rintro e w' ⟨rfl, rfl⟩
  go_wp2_with fail
  refine (between_i (r := 0) _ HT8.out (by decide +kernel)).mono ?_; rintro e w9 ⟨rfl, hb9⟩
  have HB9 := Lib.hid (below_on HB8.out hb9); have HT9 := Lib.hid (HT8.out.next hb9); clear hb9
  go_wp2_with fail
  refine (between_i (r := 0) _ HT9.out (by decide +kernel)).mono ?_; rintro e w10 ⟨rfl, hb10⟩
  have HB10 := Lib.hid (below_on HB9.out hb10); have HT10 := Lib.hid (HT9.out.next hb10); clear hb10
  go_wp2_with fail
  refine (line_i (r := 9241421688590303745) _ HT10.out (by decide +kernel)).mono ?_; rintro e w11 ⟨rfl, hb11⟩
  have HB11 := Lib.hid (below_on HB10.out hb11); have HT11 := Lib.hid (HT10.out.next hb11); clear hb11
  go_wp2_with fail
  refine (count_k (r := 8) 9241421688590303745 rfl (by decide) (by decide +kernel) _).mono ?_; rintro e w' ⟨rfl, rfl⟩
  go_wp2_with fail
  refine (line_i (r := 1157442765409226768) _ HT11.out (by decide +kernel)).mono ?_; rintro e w12 ⟨rfl, hb12⟩
  have HB12 := Lib.hid (below_on HB11.out hb12); have HT12 := Lib.hid (HT11.out.next hb12); clear hb12
  go_wp2_with fail
  refine (line_i (r := 1157442765409226768) _ HT12.out (by decide +kernel)).mono ?_; rintro e w13 ⟨rfl, hb13⟩
  have HB13 := Lib.hid (below_on HB12.out hb13); have HT13 := Lib.hid (HT12.out.next hb13); clear hb13
  go_wp2_with fail
  go_ret
  exact ⟨rfl, HB13.out⟩
end Go.Proofs.YtheaknnipbbnbaaDoor
