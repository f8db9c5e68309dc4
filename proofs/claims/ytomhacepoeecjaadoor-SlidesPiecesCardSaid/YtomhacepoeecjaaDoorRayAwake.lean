/-
  The chapter's examples of layer 3, as the statements' own function 'awake' asks them; contracts at known answers.
-/
import Derived.Test.YtomhacepoeecjaaDoorRayLine
import Derived.Test.YtomhacepoeecjaaDoorRayLaw
namespace Go.Proofs.YtomhacepoeecjaaDoor
open Go.RowKit

theorem below_on {w a b : World} (h : Below w.heap.size w a) (k : Below a.heap.size a b) : Below w.heap.size w b := h.trans (k.mono h.size)
def TrueL (w : World) (e : Ending) (w' : World) : Prop := e = .returned (.bool true) ∧ Below w.heap.size w w'
def IntL (k : IntKind) (r : Int) (w : World) (e : Ending) (w' : World) : Prop := e = .returned (.int k r) ∧ Below w.heap.size w w'
def IntS (k : IntKind) (r : Int) (w : World) (e : Ending) (w' : World) : Prop := e = .returned (.int k r) ∧ w = w'
theorem king_i {s r : Int} (w : World) (hT : TabLead w) (hr : ((kingN s : Nat) : Int) = r) : Calls Tryd.prog 26 #[.int .i64 s] w (IntL .u64 r w) := by
  subst hr; exact king_any s w hT
theorem ray_i {s d r : Int} (w : World) (hT : TabLead w) (hr : ((rayN s d : Nat) : Int) = r) : Calls Tryd.prog 27 #[.int .i64 s, .int .i64 d] w (IntL .u64 r w) := by
  subst hr; exact ray_any s d w hT
theorem between_i {a b r : Int} (w : World) (hT : TabLead w) (hr : ((betweenN a b : Nat) : Int) = r) : Calls Tryd.prog 24 #[.int .i64 a, .int .i64 b] w (IntL .u64 r w) := by
  subst hr; exact between_any a b w hT
theorem line_i {a b r : Int} (w : World) (hT : TabLead w) (hr : ((lineN a b : Nat) : Int) = r) : Calls Tryd.prog 23 #[.int .i64 a, .int .i64 b] w (IntL .u64 r w) := by
  subst hr; exact line_any a b w hT
theorem put_k {a s r : Int} (b : Nat) (ha : (b : Int) = a) (hb : b < W64) (hr : ((putN b s : Nat) : Int) = r) (w : World) : Calls Tryd.prog 21 #[.int .u64 a, .int .i64 s] w (IntS .u64 r w) := by
  subst ha hr; exact put_any b s w hb
theorem count_k {a r : Int} (b : Nat) (ha : (b : Int) = a) (hb : b < W64) (hr : (((listN b).length : Nat) : Int) = r) (w : World) : Calls Tryd.prog 32 #[.int .u64 a] w (IntS .i64 r w) := by
  subst ha hr; exact count_any b w hb

theorem u8_rng {a : Int} (h : (Lit.int .u8 a).wf = true) : 0 ≤ a ∧ a ≤ 255 := by
  simp [Lit.wf] at h
  have m : IntKind.u8.min = 0 := by decide
  have n : IntKind.u8.max = 255 := by decide
  omega
/-- A direction out of any number, as the statements make it. -/
theorem dir8 (a : Int) : ∃ d : Nat, d < 8 ∧ wrap64 ((IntKind.u64.wrap a).tmod 8) = (d : Int) := by
  have h0 : 0 ≤ IntKind.u64.wrap a := wrap_u64_nonneg a
  refine ⟨(IntKind.u64.wrap a % 8).toNat, by omega, ?_⟩
  rw [Int.tmod_eq_emod_of_nonneg h0, IntWalk.wrap64_in _ ⟨by omega, by omega⟩]
  omega
theorem turn8 (d : Nat) (h : d < 8) : (12 - (d : Int)) % 8 = (((12 - d) % 8 : Nat) : Int) := by omega
theorem distZ_rng (a b : Int) : -1 ≤ distZ a b ∧ distZ a b ≤ 7 := by
  cases h : sqB a && sqB b
  · rw [distZ_no h]; omega
  · rw [distZ_yes h]
    rw [Bool.and_eq_true, sqB_true, sqB_true] at h
    unfold gapZ
    split <;> split <;> split <;> omega

end Go.Proofs.YtomhacepoeecjaaDoor
