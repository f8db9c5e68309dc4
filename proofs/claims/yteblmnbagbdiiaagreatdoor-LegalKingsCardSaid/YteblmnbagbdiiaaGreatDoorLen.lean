/-
 Contract of math/bits.Len64: walked over the library's own text.
-/
import Derived.Test.YteblmnbagbdiiaaGreatDoorChecked
import Derived.Lib.Strings
import Derived.Lib.Slices
import Derived.Lib.Small
import Derived.Lib.Walk
import Derived.Lib.BitFns
set_option maxRecDepth 100000
set_option maxHeartbeats 4000000
namespace Go.Proofs.YteblmnbagbdiiaaGreatDoor

theorem len_close (k P : Nat) (hP : P = 2 ^ k) (c x y : Int) (hc : c = (k : Int)) (hk : k ≤ 56) (hy : 0 ≤ y ∧ y ≤ 255) (e : y.toNat = x.toNat / P) (hb : P ≤ x.toNat) (hx : x.toNat < 18446744073709551616) :
  (c + ((Lib.len8 y + 9223372036854775808) % 18446744073709551616 - 9223372036854775808) + 9223372036854775808) % 18446744073709551616 - 9223372036854775808 = ((Lib.bitLen x.toNat : Nat) : Int) := by
 have h8 := Lib.bitLen_le8' y hy.1 hy.2
 have hs : Lib.bitLen x.toNat = k + Lib.bitLen (x.toNat / P) := by rw [hP]; exact Lib.bitLen_shift k x.toNat (hP ▸ hb) hx
 rw [Lib.len8_int y hy.1 hy.2, hs, ← e, hc]
 generalize Lib.bitLen y.toNat = n at *
 omega

theorem len_int (x : Int) (w : World) (h0 : 0 ≤ x) (h1 : x ≤ 18446744073709551615) :
  Calls Tryz.prog 259 #[.int .u64 x] w fun e w' => e = .returned (.int .i64 (Lib.bitLen x.toNat : Nat)) ∧ w = w' := by
 go_enter Tryz.func259, Tryz.ntmps259
 go_wp2
 all_goals (go_ret; refine ⟨congrArg (fun z => Ending.returned (Value.int IntKind.i64 z)) ?_, rfl⟩)
 ·exact len_close 56 72057594037927936 rfl _ x _ rfl (by decide) ⟨by omega, by omega⟩ (by omega) (by omega) (by omega)
 ·exact len_close 48 281474976710656 rfl _ x _ rfl (by decide) ⟨by omega, by omega⟩ (by omega) (by omega) (by omega)
 ·exact len_close 40 1099511627776 rfl _ x _ rfl (by decide) ⟨by omega, by omega⟩ (by omega) (by omega) (by omega)
 ·exact len_close 32 4294967296 rfl _ x _ rfl (by decide) ⟨by omega, by omega⟩ (by omega) (by omega) (by omega)
 ·exact len_close 24 16777216 rfl _ x _ rfl (by decide) ⟨by omega, by omega⟩ (by omega) (by omega) (by omega)
 ·exact len_close 16 65536 rfl _ x _ rfl (by decide) ⟨by omega, by omega⟩ (by omega) (by omega) (by omega)
 ·exact len_close 8 256 rfl _ x _ rfl (by decide) ⟨by omega, by omega⟩ (by omega) (by omega) (by omega)
 ·rw [Lib.len8_int _ (by omega) (by omega), show x % 256 = x by omega]

theorem bitLen_pos {x : Nat} (h0 : x ≠ 0) (hx : x < 18446744073709551616) : Lib.bitLen x = x.log2 + 1 := by
 have h1 : 2 ^ x.log2 ≤ x := Nat.log2_self_le h0
 have h2 : x / 2 ^ x.log2 = 1 := by
  have a1 : x < 2 ^ (x.log2 + 1) := Nat.lt_log2_self
  have a2 : x / 2 ^ x.log2 < 2 := by rw [Nat.div_lt_iff_lt_mul (Nat.two_pow_pos _)]; rw [Nat.pow_succ] at a1; omega
  have a3 : 0 < x / 2 ^ x.log2 := Nat.div_pos h1 (Nat.two_pow_pos _)
  omega
 rw [Lib.bitLen_shift x.log2 x h1 hx, h2]
 rfl
end Go.Proofs.YteblmnbagbdiiaaGreatDoor
