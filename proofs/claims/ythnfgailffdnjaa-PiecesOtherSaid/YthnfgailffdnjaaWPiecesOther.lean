/-
  The walk of PiecesOther.
-/
import Derived.Test.YthnfgailffdnjaaPcAwake
import Derived.Deep.QuietTactic
import Derived.BigQuiet
import Derived.WalkKit
import Derived.OpenShut
namespace Go.Proofs.Ythnfgailffdnjaa.piecesOther
open Go.RowKit
set_option linter.unusedVariables false
theorem pc_quiet {P : Program} {f : FuncId} {args : Array Value} {w : World} {n : Nat} {v : Value}
    (h : Calls P f args (w.drewN n) fun e w' => e = .returned v ∧ w.drewN n = w') : Calls P f args (w.drewN n) fun e w'' => e = .returned v ∧ ∃ m, w'' = w.drewN m :=
  h.mono fun _ _ ⟨he, hm⟩ => ⟨he, n, hm.symm⟩
theorem pc_drewN {B : Nat} {a w : World} (h : Below B a w) (n : Nat) : Below B a (w.drewN n) := h.trans ⟨rfl, rfl, rfl, Nat.le_refl _, fun _ _ => rfl⟩
set_option maxHeartbeats 1000000 in
theorem other_no (p : Int) (w : World) (hp : 0 ≤ p) (hq : p ≤ 255) (h : pcB p = false) (o : (othZ p == 0) = true) :
    Calls Try.prog 6 #[.int .u8 p] w fun e w' => e = .returned (.bool true) ∧ Below w.heap.size w w' := by
  go_enter Try.func6, Try.ntmps6
  go_wp2_with (first | (go_at_call 25; refine (pawake_any _).mono ?_; rintro e w' ⟨rfl, rfl⟩) | (go_at_call 23; refine (oth_any _ _ hp hq).mono ?_; rintro e w' ⟨rfl, rfl⟩) | (go_at_call 12; refine (is_any _ _ hp hq).mono ?_; rintro e w' ⟨rfl, rfl⟩))
  go_ret
  exact ⟨rfl, Below.refl _ _⟩
theorem is_i {p : Int} (r : Bool) (hr : pcB p = r) (hp : 0 ≤ p) (hq : p ≤ 255) (w : World) : Calls Try.prog 12 #[.int .u8 p] w (Bo r w) := by
  subst hr; exact is_any p w hp hq
set_option maxHeartbeats 1000000 in
theorem other_0 (p o k : Int) (x y : UInt8) (w : World) (I : Hid (∀ w, Calls Try.prog 12 #[.int .u8 p] w fun e w' => e = .returned (.bool true) ∧ w = w')) (O1 : Hid (∀ w, Calls Try.prog 23 #[.int .u8 p] w fun e w' => e = .returned (.int .u8 o) ∧ w = w')) (O2 : Hid (∀ w, Calls Try.prog 23 #[.int .u8 o] w fun e w' => e = .returned (.int .u8 p) ∧ w = w')) (K1 : Hid (∀ w, Calls Try.prog 16 #[.int .u8 o] w fun e w' => e = .returned (.int .u8 k) ∧ w = w')) (K2 : Hid (∀ w, Calls Try.prog 16 #[.int .u8 p] w fun e w' => e = .returned (.int .u8 k) ∧ w = w')) (C1 : Hid (∀ w, Calls Try.prog 14 #[.int .u8 o] w fun e w' => e = .returned (.int .u8 1) ∧ w = w')) (C2 : Hid (∀ w, Calls Try.prog 14 #[.int .u8 p] w fun e w' => e = .returned (.int .u8 0) ∧ w = w')) (L1 : Hid (∀ w, Calls Try.prog 21 #[.int .u8 p] w fun e w' => e = .returned (.string ⟨#[x]⟩) ∧ w = w')) (L2 : Hid (∀ w, Calls Try.prog 21 #[.int .u8 o] w fun e w' => e = .returned (.string ⟨#[y]⟩) ∧ w = w'))
    (X Y : Int) (hx : Hid (∀ h, (((⟨#[x]⟩ : ByteArray)[0]'h).toNat : Int) = X)) (hy : Hid (∀ h, (((⟨#[y]⟩ : ByteArray)[0]'h).toNat : Int) = Y)) (gx : (bits BinOp.xor IntKind.u8 X Y == 32) = true) (g : decide (X < 97) = true) : Calls Try.prog 6 #[.int .u8 p] w fun e w' => e = .returned (.bool true) ∧ Below w.heap.size w w' := by
  go_enter Try.func6, Try.ntmps6
  go_wp2_with fail
  refine (pawake_any _).mono ?_; rintro e w' ⟨rfl, rfl⟩
  go_wp2_with fail
  refine (O1.out _).mono ?_; rintro e w' ⟨rfl, rfl⟩
  go_wp2_with fail
  refine (I.out _).mono ?_; rintro e w' ⟨rfl, rfl⟩
  go_wp2_with fail
  refine (L1.out _).mono ?_; rintro e w' ⟨rfl, rfl⟩
  go_wp2_with fail
  refine (L2.out _).mono ?_; rintro e w' ⟨rfl, rfl⟩
  go_wp2
  have hx := hx.out
  have hy := hy.out
  have hs : IntKind.u8.wrap 1 = 1 := by decide
  go_quiet ((first | (go_at_call 23; with_reducible exact pc_quiet (O2.out _)) | (go_at_call 16; with_reducible exact pc_quiet (K1.out _)) | (go_at_call 16; with_reducible exact pc_quiet (K2.out _)) | (go_at_call 14; with_reducible exact pc_quiet (C1.out _)) | (go_at_call 14; with_reducible exact pc_quiet (C2.out _))))
  go_wp2
  go_ret
  exact ⟨rfl, pc_drewN (Below.refl _ _) _⟩
set_option maxHeartbeats 1000000 in
theorem other_1 (p o k : Int) (x y : UInt8) (w : World) (I : Hid (∀ w, Calls Try.prog 12 #[.int .u8 p] w fun e w' => e = .returned (.bool true) ∧ w = w')) (O1 : Hid (∀ w, Calls Try.prog 23 #[.int .u8 p] w fun e w' => e = .returned (.int .u8 o) ∧ w = w')) (O2 : Hid (∀ w, Calls Try.prog 23 #[.int .u8 o] w fun e w' => e = .returned (.int .u8 p) ∧ w = w')) (K1 : Hid (∀ w, Calls Try.prog 16 #[.int .u8 o] w fun e w' => e = .returned (.int .u8 k) ∧ w = w')) (K2 : Hid (∀ w, Calls Try.prog 16 #[.int .u8 p] w fun e w' => e = .returned (.int .u8 k) ∧ w = w')) (C1 : Hid (∀ w, Calls Try.prog 14 #[.int .u8 o] w fun e w' => e = .returned (.int .u8 0) ∧ w = w')) (C2 : Hid (∀ w, Calls Try.prog 14 #[.int .u8 p] w fun e w' => e = .returned (.int .u8 1) ∧ w = w')) (L1 : Hid (∀ w, Calls Try.prog 21 #[.int .u8 p] w fun e w' => e = .returned (.string ⟨#[x]⟩) ∧ w = w')) (L2 : Hid (∀ w, Calls Try.prog 21 #[.int .u8 o] w fun e w' => e = .returned (.string ⟨#[y]⟩) ∧ w = w'))
    (X Y : Int) (hx : Hid (∀ h, (((⟨#[x]⟩ : ByteArray)[0]'h).toNat : Int) = X)) (hy : Hid (∀ h, (((⟨#[y]⟩ : ByteArray)[0]'h).toNat : Int) = Y)) (gx : (bits BinOp.xor IntKind.u8 X Y == 32) = true) (g : decide (X < 97) = false) : Calls Try.prog 6 #[.int .u8 p] w fun e w' => e = .returned (.bool true) ∧ Below w.heap.size w w' := by
  go_enter Try.func6, Try.ntmps6
  go_wp2_with fail
  refine (pawake_any _).mono ?_; rintro e w' ⟨rfl, rfl⟩
  go_wp2_with fail
  refine (O1.out _).mono ?_; rintro e w' ⟨rfl, rfl⟩
  go_wp2_with fail
  refine (I.out _).mono ?_; rintro e w' ⟨rfl, rfl⟩
  go_wp2_with fail
  refine (L1.out _).mono ?_; rintro e w' ⟨rfl, rfl⟩
  go_wp2_with fail
  refine (L2.out _).mono ?_; rintro e w' ⟨rfl, rfl⟩
  go_wp2
  have hx := hx.out
  have hy := hy.out
  have hs : IntKind.u8.wrap 0 = 0 := by decide
  go_quiet ((first | (go_at_call 23; with_reducible exact pc_quiet (O2.out _)) | (go_at_call 16; with_reducible exact pc_quiet (K1.out _)) | (go_at_call 16; with_reducible exact pc_quiet (K2.out _)) | (go_at_call 14; with_reducible exact pc_quiet (C1.out _)) | (go_at_call 14; with_reducible exact pc_quiet (C2.out _))))
  go_wp2
  go_ret
  exact ⟨rfl, pc_drewN (Below.refl _ _) _⟩
/-- The letter's byte of a number. -/
def chP (p : Int) : UInt8 := letT.data.getD p.toNat 0
theorem letters_ok (k : Nat) (hk : k < 12) : letZ (atP k) = ⟨#[chP (atP k)]⟩ ∧ letZ (othZ (atP k)) = ⟨#[chP (othZ (atP k))]⟩ ∧ othZ (othZ (atP k)) = atP k ∧ kndZ (othZ (atP k)) = kndZ (atP k) ∧ colZ (othZ (atP k)) = 1 - colZ (atP k) ∧ (colZ (atP k) = 0 ∨ colZ (atP k) = 1) ∧
    (bits BinOp.xor IntKind.u8 ((chP (atP k)).toNat : Int) ((chP (othZ (atP k))).toNat : Int) == 32) = true ∧ decide (((chP (atP k)).toNat : Int) < 97) = (colZ (atP k) == 0) := by
  have key : ∀ k : Fin 12, letZ (atP k.val) = ⟨#[chP (atP k.val)]⟩ ∧ letZ (othZ (atP k.val)) = ⟨#[chP (othZ (atP k.val))]⟩ ∧ othZ (othZ (atP k.val)) = atP k.val ∧ kndZ (othZ (atP k.val)) = kndZ (atP k.val) ∧ colZ (othZ (atP k.val)) = 1 - colZ (atP k.val) ∧ (colZ (atP k.val) = 0 ∨ colZ (atP k.val) = 1) ∧
    (bits BinOp.xor IntKind.u8 ((chP (atP k.val)).toNat : Int) ((chP (othZ (atP k.val))).toNat : Int) == 32) = true ∧ decide (((chP (atP k.val)).toNat : Int) < 97) = (colZ (atP k.val) == 0) := by decide +kernel
  exact key ⟨k, hk⟩
theorem walk (a0 : Int) (w0 : (Lit.int .u8 a0).wf = true) (w : World) :
    Calls Try.prog 6 #[.int .u8 a0] w fun e w' => e = .returned (.bool true) ∧ Below w.heap.size w w' := by
  obtain ⟨hp, hq⟩ := u8_rng w0
  cases h : pcB a0
  · exact other_no a0 w hp hq h (by rw [othZ_no h]; rfl)
  · obtain ⟨k, hk, rfl⟩ := pc_at h
    obtain ⟨e1, e2, e3, e4, e5, e6, e7, e8⟩ := letters_ok k hk
    have r := oth_rng (atP k)
    have q0 := r.1
    have q1 : othZ (atP k) ≤ 255 := by omega
    rcases e6 with e6 | e6
    · exact other_0 (atP k) (othZ (atP k)) (kndZ (atP k)) _ _ w (Lib.hid fun w => is_i true h hp hq w) (Lib.hid fun w => oth_any _ w hp hq) (Lib.hid fun w => oth_i _ e3 q0 q1 w) (Lib.hid fun w => knd_i _ e4 q0 q1 w) (Lib.hid fun w => knd_any _ w hp hq) (Lib.hid fun w => col_i _ (by rw [e5, e6]; rfl) q0 q1 w) (Lib.hid fun w => col_i _ e6 hp hq w) (Lib.hid fun w => let_i _ e1 hp hq w) (Lib.hid fun w => let_i _ e2 q0 q1 w) _ _ (Lib.hid fun _ => rfl) (Lib.hid fun _ => rfl) e7 (by rw [e8, e6]; rfl)
    · exact other_1 (atP k) (othZ (atP k)) (kndZ (atP k)) _ _ w (Lib.hid fun w => is_i true h hp hq w) (Lib.hid fun w => oth_any _ w hp hq) (Lib.hid fun w => oth_i _ e3 q0 q1 w) (Lib.hid fun w => knd_i _ e4 q0 q1 w) (Lib.hid fun w => knd_any _ w hp hq) (Lib.hid fun w => col_i _ (by rw [e5, e6]; rfl) q0 q1 w) (Lib.hid fun w => col_i _ e6 hp hq w) (Lib.hid fun w => let_i _ e1 hp hq w) (Lib.hid fun w => let_i _ e2 q0 q1 w) _ _ (Lib.hid fun _ => rfl) (Lib.hid fun _ => rfl) e7 (by rw [e8, e6]; rfl)
end Go.Proofs.Ythnfgailffdnjaa.piecesOther
