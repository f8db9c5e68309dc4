/-
  Several texts in one: MathC, LibBits, BoSet, BoOf, LawB.
-/
import Derived.Test.YteblmnbagbdiiaaGreatDoorAtBase
import Derived.Lib.TrailingZeros
import Derived.Outline
/-
  Plain mathematics of sets of squares, third part: how many squares there are, and the ranks turned about, as the Go library reckons them, byte by byte. Nothing of the program stands here.
-/
set_option maxHeartbeats 1000000
namespace Go.Proofs.YteblmnbagbdiiaaGreatDoor

/-! A number out of its bytes. -/
def val : List Nat → Nat
  | [] => 0
  | a :: l => a + 256 * val l
theorem byte_and (a c n m : Nat) (ha : a < 256) (hc : c < 256) : (a + 256 * n) &&& (c + 256 * m) = (a &&& c) + 256 * (n &&& m) := by
  have hac : a &&& c < 2 ^ 8 := Nat.and_lt_two_pow _ hc
  apply Nat.eq_of_testBit_eq
  intro i
  rw [Nat.add_comm a, Nat.add_comm c, Nat.add_comm (a &&& c), Nat.testBit_and]
  have e : (256 : Nat) = 2 ^ 8 := rfl
  rw [e, Nat.testBit_two_pow_mul_add n (by omega), Nat.testBit_two_pow_mul_add m (by omega), Nat.testBit_two_pow_mul_add (n &&& m) hac]
  split <;> rw [Nat.testBit_and]

def f1 (x m : Nat) : Nat := (x / 2 &&& m) + (x &&& m)
def f2 (x m : Nat) : Nat := (x / 4 &&& m) + (x &&& m)
def f3 (x m : Nat) : Nat := (x / 16 + x) &&& m
theorem f1_low : ∀ a, a < 256 → (a + 128 * 0) < 256 ∧ ((a / 2 + 128 * 0) &&& 85) = (a / 2 &&& 85) ∧ ((a / 2 + 128 * 1) &&& 85) = (a / 2 &&& 85) ∧ f1 a 85 < 256 := by decide +kernel
theorem f2_low : ∀ a, a < 256 → ((a / 4 + 64 * 0) &&& 51) = (a / 4 &&& 51) ∧ ((a / 4 + 64 * 1) &&& 51) = (a / 4 &&& 51) ∧ ((a / 4 + 64 * 2) &&& 51) = (a / 4 &&& 51) ∧ ((a / 4 + 64 * 3) &&& 51) = (a / 4 &&& 51) ∧ f2 a 51 < 256 := by decide +kernel
theorem f1_byte (a n m : Nat) (ha : a < 256) : f1 (a + 256 * n) (85 + 256 * m) = f1 a 85 + 256 * f1 n m := by
  unfold f1
  have e : (a + 256 * n) / 2 = (a / 2 + 128 * (n % 2)) + 256 * (n / 2) := by omega
  rw [e, byte_and _ _ _ _ (by omega) (by decide), byte_and _ _ _ _ ha (by decide)]
  have h := f1_low a ha
  have h2 : n % 2 = 0 ∨ n % 2 = 1 := by omega
  rcases h2 with h2 | h2 <;> rw [h2]
  · rw [h.2.1]; omega
  · rw [h.2.2.1]; omega
theorem f2_byte (a n m : Nat) (ha : a < 256) : f2 (a + 256 * n) (51 + 256 * m) = f2 a 51 + 256 * f2 n m := by
  unfold f2
  have e : (a + 256 * n) / 4 = (a / 4 + 64 * (n % 4)) + 256 * (n / 4) := by omega
  rw [e, byte_and _ _ _ _ (by omega) (by decide), byte_and _ _ _ _ ha (by decide)]
  have h := f2_low a ha
  have h2 : n % 4 = 0 ∨ n % 4 = 1 ∨ n % 4 = 2 ∨ n % 4 = 3 := by omega
  rcases h2 with h2 | h2 | h2 | h2 <;> rw [h2]
  · rw [h.1]; omega
  · rw [h.2.1]; omega
  · rw [h.2.2.1]; omega
  · rw [h.2.2.2.1]; omega
def nib (a : Nat) : Prop := a % 16 ≤ 4 ∧ a / 16 ≤ 4
theorem f3_byte (a n m : Nat) (ha : nib a) (hn : n % 16 ≤ 4) : f3 (a + 256 * n) (15 + 256 * m) = (a / 16 + a % 16) + 256 * f3 n m := by
  unfold f3
  unfold nib at ha
  have e : (a + 256 * n) / 16 + (a + 256 * n) = (a / 16 + 16 * (n % 16) + a) + 256 * (n / 16 + n) := by omega
  rw [e, byte_and _ _ _ _ (by omega) (by decide)]
  have h15 : ∀ y : Nat, y &&& 15 = y % 16 := fun y => Nat.and_two_pow_sub_one_eq_mod y 4
  rw [h15]
  omega

def g1 (a : Nat) : Nat := f1 a 85
def g2 (a : Nat) : Nat := f2 (g1 a) 51
def g3 (a : Nat) : Nat := g2 a / 16 + g2 a % 16
def popN : Nat → Nat → Nat
  | 0, _ => 0
  | k + 1, b => b % 2 + popN k (b / 2)
theorem bytes_ok : ∀ a, a < 256 → g1 a < 256 ∧ g2 a < 256 ∧ (g2 a % 16 ≤ 4 ∧ g2 a / 16 ≤ 4) ∧ g3 a = popN 8 a ∧ g3 a ≤ 8 := by decide +kernel

theorem lay1 : ∀ l : List Nat, (∀ a ∈ l, a < 256) → f1 (val l) (val (l.map fun _ => 85)) = val (l.map g1)
  | [], _ => rfl
  | a :: l, h => by
    simp only [val, List.map_cons]
    rw [f1_byte _ _ _ (h a (by simp)), lay1 l (fun x hx => h x (by simp [hx]))]; rfl
theorem lay2 : ∀ l : List Nat, (∀ a ∈ l, a < 256) → f2 (val (l.map g1)) (val (l.map fun _ => 51)) = val (l.map g2)
  | [], _ => rfl
  | a :: l, h => by
    simp only [val, List.map_cons]
    rw [f2_byte _ _ _ (bytes_ok a (h a (by simp))).1, lay2 l (fun x hx => h x (by simp [hx]))]; rfl
theorem low_nib : ∀ l : List Nat, (∀ a ∈ l, a < 256) → val (l.map g2) % 16 ≤ 4
  | [], _ => by decide
  | a :: l, h => by
    simp only [val, List.map_cons]
    have := (bytes_ok a (h a (by simp))).2.2.1.1
    omega
theorem lay3 : ∀ l : List Nat, (∀ a ∈ l, a < 256) → f3 (val (l.map g2)) (val (l.map fun _ => 15)) = val (l.map g3)
  | [], _ => rfl
  | a :: l, h => by
    simp only [val, List.map_cons]
    rw [f3_byte _ _ _ (bytes_ok a (h a (by simp))).2.2.1 (low_nib l (fun x hx => h x (by simp [hx]))), lay3 l (fun x hx => h x (by simp [hx]))]; rfl

theorem popN_byte (a n k : Nat) (ha : a < 256) : popN (k + 8) (a + 256 * n) = popN 8 a + popN k n := by
  have e : (a + 256 * n) / 2 / 2 / 2 / 2 / 2 / 2 / 2 / 2 = n := by omega
  simp only [popN, e]
  omega
theorem popN_val : ∀ l : List Nat, (∀ a ∈ l, a < 256) → popN (8 * l.length) (val l) = (l.map (popN 8)).sum
  | [], _ => rfl
  | a :: l, h => by
    simp only [val, List.map_cons, List.sum_cons, List.length_cons]
    rw [Nat.mul_succ, popN_byte _ _ _ (h a (by simp)), popN_val l (fun x hx => h x (by simp [hx]))]

theorem listTo_pop : ∀ (k b : Nat), (listTo b k).length = popN k b
  | 0, _ => rfl
  | k + 1, b => by
    have ih := listTo_pop k (b / 2)
    unfold listTo at ih ⊢
    rw [List.range_succ_eq_map, List.filter_cons, List.filter_map, popN, ← ih]
    have e : ((fun x => b.testBit x) ∘ Nat.succ) = fun x => (b / 2).testBit x := by
      funext x; simp [Function.comp, Nat.testBit_succ]
    rw [e]
    have h0 : b.testBit 0 = decide (b % 2 = 1) := Nat.testBit_zero b
    by_cases h : b % 2 = 1
    · simp [h0, h]; omega
    · have : b % 2 = 0 := by omega
      simp [h0, this]

def bytesOf (x : Nat) : List Nat := [x % 256, x / 256 % 256, x / 65536 % 256, x / 16777216 % 256, x / 4294967296 % 256, x / 1099511627776 % 256, x / 281474976710656 % 256, x / 72057594037927936]
theorem val_bytesOf (x : Nat) : val (bytesOf x) = x := by simp only [bytesOf, val]; omega
theorem bytesOf_lt {x : Nat} (h : x < W64) : ∀ a ∈ bytesOf x, a < 256 := by
  unfold W64 at h
  intro a ha
  simp only [bytesOf, List.mem_cons, List.not_mem_nil, or_false] at ha
  omega

theorem div_step (k a n : Nat) (ha : a < k) : (a + k * n) / k = n := by
  have hk : 0 < k := by omega
  rw [Nat.add_mul_div_left _ _ hk, Nat.div_eq_of_lt ha, Nat.zero_add]

theorem fold_sum (b0 b1 b2 b3 b4 b5 b6 b7 y z u : Nat) (h0 : b0 ≤ 8) (h1 : b1 ≤ 8) (h2 : b2 ≤ 8) (h3 : b3 ≤ 8) (h4 : b4 ≤ 8) (h5 : b5 ≤ 8) (h6 : b6 ≤ 8) (h7 : b7 ≤ 8)
   (hy : y = b0 + 256 * (b1 + 256 * (b2 + 256 * (b3 + 256 * (b4 + 256 * (b5 + 256 * (b6 + 256 * b7)))))))
   (hz : z = y + y / 256) (hu : u = z + z / 65536) : (u + u / 4294967296) % 128 = b0 + (b1 + (b2 + (b3 + (b4 + (b5 + (b6 + b7)))))) := by
  have e1 : y / 256 = b1 + 256 * (b2 + 256 * (b3 + 256 * (b4 + 256 * (b5 + 256 * (b6 + 256 * b7))))) := by
    rw [hy, div_step _ _ _ (by omega)]
  have e2 : z = ((b0 + b1) + 256 * (b1 + b2)) + 65536 * ((b2 + b3) + 256 * ((b3 + b4) + 256 * ((b4 + b5) + 256 * ((b5 + b6) + 256 * ((b6 + b7) + 256 * b7))))) := by
    rw [hz, e1, hy]; clear hz e1 hy hu; omega
  have e3 : z / 65536 = (b2 + b3) + 256 * ((b3 + b4) + 256 * ((b4 + b5) + 256 * ((b5 + b6) + 256 * ((b6 + b7) + 256 * b7)))) := by
    rw [e2, div_step _ _ _ (by omega)]
  have e4 : u = ((b0 + b1 + b2 + b3) + 256 * ((b1 + b2 + b3 + b4) + 256 * ((b2 + b3 + b4 + b5) + 256 * (b3 + b4 + b5 + b6)))) + 4294967296 * ((b4 + b5 + b6 + b7) + 256 * ((b5 + b6 + b7) + 256 * ((b6 + b7) + 256 * b7))) := by
    rw [hu, e3, e2]; clear hu e3 e2 hz e1 hy; omega
  have e5 : u / 4294967296 = (b4 + b5 + b6 + b7) + 256 * ((b5 + b6 + b7) + 256 * ((b6 + b7) + 256 * b7)) := by
    rw [e4, div_step _ _ _ (by omega)]
  rw [e5, e4]
  clear e5 e4 e3 e2 e1 hz hu hy
  obtain ⟨q, hq⟩ : ∃ q, (b0 + b1 + b2 + b3) + 256 * ((b1 + b2 + b3 + b4) + 256 * ((b2 + b3 + b4 + b5) + 256 * (b3 + b4 + b5 + b6))) + 4294967296 * ((b4 + b5 + b6 + b7) + 256 * ((b5 + b6 + b7) + 256 * ((b6 + b7) + 256 * b7))) + ((b4 + b5 + b6 + b7) + 256 * ((b5 + b6 + b7) + 256 * ((b6 + b7) + 256 * b7))) = (b0 + (b1 + (b2 + (b3 + (b4 + (b5 + (b6 + b7))))))) + 128 * q :=
    ⟨2 * ((b1 + b2 + b3 + b4) + 256 * ((b2 + b3 + b4 + b5) + 256 * (b3 + b4 + b5 + b6))) + 33554432 * ((b4 + b5 + b6 + b7) + 256 * ((b5 + b6 + b7) + 256 * ((b6 + b7) + 256 * b7))) + 2 * ((b5 + b6 + b7) + 256 * ((b6 + b7) + 256 * b7)), by omega⟩
  rw [hq, Nat.add_mul_mod_self_left]
  exact Nat.mod_eq_of_lt (by omega)

theorem val8_le (k a0 a1 a2 a3 a4 a5 a6 a7 : Nat) (h : a0 ≤ k ∧ a1 ≤ k ∧ a2 ≤ k ∧ a3 ≤ k ∧ a4 ≤ k ∧ a5 ≤ k ∧ a6 ≤ k ∧ a7 ≤ k) : val [a0, a1, a2, a3, a4, a5, a6, a7] ≤ k * 72340172838076673 := by
  simp only [val]; omega
def cntY (x : Nat) : Nat := f3 (f2 (f1 x 6148914691236517205) 3689348814741910323) 1085102592571150095
def cntZ (x : Nat) : Nat := cntY x + cntY x / 256
def cntU (x : Nat) : Nat := cntZ x + cntZ x / 65536
theorem count_lib (x : Nat) (hx : x < W64) :
    f1 x 6148914691236517205 ≤ 255 * 72340172838076673 ∧ f2 (f1 x 6148914691236517205) 3689348814741910323 ≤ 68 * 72340172838076673 ∧ cntY x ≤ 8 * 72340172838076673 ∧
      (cntU x + cntU x / 4294967296) % 128 = (listN x).length := by
  have hb := bytesOf_lt hx
  have m1 : (6148914691236517205 : Nat) = val ((bytesOf x).map fun _ => 85) := by simp [bytesOf, val]
  have m2 : (3689348814741910323 : Nat) = val ((bytesOf x).map fun _ => 51) := by simp [bytesOf, val]
  have m3 : (1085102592571150095 : Nat) = val ((bytesOf x).map fun _ => 15) := by simp [bytesOf, val]
  have l1 : f1 x 6148914691236517205 = val ((bytesOf x).map g1) := by
    have := lay1 _ hb
    rwa [← m1, val_bytesOf] at this
  have l2 : f2 (f1 x 6148914691236517205) 3689348814741910323 = val ((bytesOf x).map g2) := by
    have := lay2 _ hb
    rwa [← m2, ← l1] at this
  have l3 : cntY x = val ((bytesOf x).map g3) := by
    have := lay3 _ hb
    rwa [← m3, ← l2] at this
  have hp : (listN x).length = ((bytesOf x).map (popN 8)).sum := by
    rw [listN, listTo_pop, ← popN_val _ hb, val_bytesOf]; rfl
  have c : ∀ a ∈ bytesOf x, g1 a ≤ 255 ∧ g2 a ≤ 68 ∧ g3 a = popN 8 a ∧ g3 a ≤ 8 := fun a ha => by
    have := bytes_ok a (hb a ha); exact ⟨by omega, by omega, this.2.2.2.1, this.2.2.2.2⟩
  rw [l2, l1, hp]
  clear l1 l2 m1 m2 m3 hp hb hx
  unfold bytesOf at *
  have c0 := c _ (.head _)
  have c1 := c _ (.tail _ (.head _))
  have c2 := c _ (.tail _ (.tail _ (.head _)))
  have c3 := c _ (.tail _ (.tail _ (.tail _ (.head _))))
  have c4 := c _ (.tail _ (.tail _ (.tail _ (.tail _ (.head _)))))
  have c5 := c _ (.tail _ (.tail _ (.tail _ (.tail _ (.tail _ (.head _))))))
  have c6 := c _ (.tail _ (.tail _ (.tail _ (.tail _ (.tail _ (.tail _ (.head _)))))))
  have c7 := c _ (.tail _ (.tail _ (.tail _ (.tail _ (.tail _ (.tail _ (.tail _ (.head _))))))))
  clear c
  generalize x % 256 = a0 at *
  generalize x / 256 % 256 = a1 at *
  generalize x / 65536 % 256 = a2 at *
  generalize x / 16777216 % 256 = a3 at *
  generalize x / 4294967296 % 256 = a4 at *
  generalize x / 1099511627776 % 256 = a5 at *
  generalize x / 281474976710656 % 256 = a6 at *
  generalize x / 72057594037927936 = a7 at *
  refine ⟨val8_le _ _ _ _ _ _ _ _ _ ⟨c0.1, c1.1, c2.1, c3.1, c4.1, c5.1, c6.1, c7.1⟩, val8_le _ _ _ _ _ _ _ _ _ ⟨c0.2.1, c1.2.1, c2.2.1, c3.2.1, c4.2.1, c5.2.1, c6.2.1, c7.2.1⟩,
    l3 ▸ val8_le _ _ _ _ _ _ _ _ _ ⟨c0.2.2.2, c1.2.2.2, c2.2.2.2, c3.2.2.2, c4.2.2.2, c5.2.2.2, c6.2.2.2, c7.2.2.2⟩, ?_⟩
  have hs := fold_sum _ _ _ _ _ _ _ _ (cntY x) (cntZ x) (cntU x) c0.2.2.2 c1.2.2.2 c2.2.2.2 c3.2.2.2 c4.2.2.2 c5.2.2.2 c6.2.2.2 c7.2.2.2 l3 rfl rfl
  rw [hs, c0.2.2.1, c1.2.2.1, c2.2.2.1, c3.2.2.1, c4.2.2.1, c5.2.2.1, c6.2.2.1, c7.2.2.1]
  rfl

/-! The ranks turned about, as the library reckons it. -/
end Go.Proofs.YteblmnbagbdiiaaGreatDoor
/-
  Contracts of math/bits.OnesCount64, ReverseBytes64, TrailingZeros64, and of the program's Count, First, Flip, edge, Shift.
-/
namespace Go.Proofs.YteblmnbagbdiiaaGreatDoor
open Go.RowKit

theorem div_nat (a k : Nat) : ((a : Int) / (k : Int)) = ((a / k : Nat) : Int) := by simp
theorem wrap_add {a b : Nat} (h : a + b < W64) : IntKind.u64.wrap ((a : Int) + (b : Int)) = ((a + b : Nat) : Int) := by
  rw [← wrap_nat _ h]; simp
theorem wrap_mul (a k : Nat) : IntKind.u64.wrap ((a : Int) * (k : Int)) = ((a * k % W64 : Nat) : Int) := by
  rw [IntKind.wrap_u64, Int.natCast_emod, Int.natCast_mul]; rfl
theorem half_lt {a : Nat} (k : Nat) (h : a < W64) : a / k < W64 := Nat.lt_of_le_of_lt (Nat.div_le_self _ _) h

theorem ones1 (b : Nat) (hb : b < W64) : IntKind.u64.wrap (bits .and .u64 ((b : Int) / 2) 6148914691236517205 + bits .and .u64 (b : Int) 6148914691236517205) = ((f1 b 6148914691236517205 : Nat) : Int) := by
  have h := (count_lib b hb).1
  have e1 := and_nat (a := b / 2) (b := 6148914691236517205) (half_lt 2 hb) (by decide)
  have e2 := and_nat (a := b) (b := 6148914691236517205) hb (by decide)
  rw [← div_nat] at e1
  have e3 := wrap_add (a := b / 2 &&& 6148914691236517205) (b := b &&& 6148914691236517205) (by unfold f1 at h; unfold W64; omega)
  rw [← e1, ← e2] at e3
  exact e3
theorem ones2 (b : Nat) (hb : b < W64) : IntKind.u64.wrap (bits .and .u64 (((f1 b 6148914691236517205 : Nat) : Int) / 4) 3689348814741910323 + bits .and .u64 ((f1 b 6148914691236517205 : Nat) : Int) 3689348814741910323) = ((f2 (f1 b 6148914691236517205) 3689348814741910323 : Nat) : Int) := by
  have h0 := (count_lib b hb).1
  have h := (count_lib b hb).2.1
  generalize f1 b 6148914691236517205 = c at *
  have hc : c < W64 := by unfold W64; omega
  have e1 := and_nat (a := c / 4) (b := 3689348814741910323) (half_lt 4 hc) (by decide)
  have e2 := and_nat (a := c) (b := 3689348814741910323) hc (by decide)
  rw [← div_nat] at e1
  have e3 := wrap_add (a := c / 4 &&& 3689348814741910323) (b := c &&& 3689348814741910323) (by unfold f2 at h; unfold W64; omega)
  rw [← e1, ← e2] at e3
  exact e3
theorem ones3 (b : Nat) (hb : b < W64) : bits .and .u64 (IntKind.u64.wrap (((f2 (f1 b 6148914691236517205) 3689348814741910323 : Nat) : Int) / 16 + ((f2 (f1 b 6148914691236517205) 3689348814741910323 : Nat) : Int))) 1085102592571150095 = ((cntY b : Nat) : Int) := by
  have h := (count_lib b hb).2.1
  unfold cntY
  generalize f2 (f1 b 6148914691236517205) 3689348814741910323 = c at *
  have hc : c / 16 + c < W64 := by unfold W64; omega
  have e1 := wrap_add (a := c / 16) (b := c) hc
  rw [← div_nat] at e1
  have e2 := and_nat (a := c / 16 + c) (b := 1085102592571150095) hc (by decide)
  rw [← e1] at e2
  exact e2
theorem ones4 (b : Nat) (hb : b < W64) : IntKind.u64.wrap (((cntY b : Nat) : Int) + ((cntY b : Nat) : Int) / 256) = ((cntZ b : Nat) : Int) := by
  have h := (count_lib b hb).2.2.1
  have e1 := wrap_add (a := cntY b) (b := cntY b / 256) (by unfold W64; omega)
  rw [← div_nat] at e1
  exact e1
theorem ones5 (b : Nat) (hb : b < W64) : IntKind.u64.wrap (((cntZ b : Nat) : Int) + ((cntZ b : Nat) : Int) / 65536) = ((cntU b : Nat) : Int) := by
  have h := (count_lib b hb).2.2.1
  have hz : cntZ b = cntY b + cntY b / 256 := rfl
  have e1 := wrap_add (a := cntZ b) (b := cntZ b / 65536) (by unfold W64; omega)
  rw [← div_nat] at e1
  exact e1
def cntV (b : Nat) : Nat := cntU b + cntU b / 4294967296
theorem cntV_lt (b : Nat) (hb : b < W64) : cntV b ≤ 9223372036854775807 := by
  have h := (count_lib b hb).2.2.1
  have hz : cntZ b = cntY b + cntY b / 256 := rfl
  have hu : cntU b = cntZ b + cntZ b / 65536 := rfl
  have hv : cntV b = cntU b + cntU b / 4294967296 := rfl
  omega
theorem ones6 (b : Nat) (hb : b < W64) : IntKind.u64.wrap (((cntU b : Nat) : Int) + ((cntU b : Nat) : Int) / 4294967296) = ((cntV b : Nat) : Int) := by
  have h := cntV_lt b hb
  have e1 := wrap_add (a := cntU b) (b := cntU b / 4294967296) (by unfold cntV at h; unfold W64; omega)
  rw [← div_nat] at e1
  exact e1

theorem ones7 (b : Nat) (hb : b < W64) : bits .and .i64 (wrap64 ((cntV b : Nat) : Int)) 127 = (((listN b).length : Nat) : Int) := by
  have h := cntV_lt b hb
  have e : wrap64 ((cntV b : Nat) : Int) = ((cntV b : Nat) : Int) := IntWalk.wrap64_in _ ⟨by omega, by omega⟩
  have hw : ∀ n : Int, 0 ≤ n → n < 2 ^ 63 → IntKind.i64.wrap n = n := fun n h0 h1 => by rw [IntKind.wrap_i64]; omega
  rw [e]
  have h2 := bits_mask .i64 63 (by decide) hw 7 (by decide) ((cntV b : Nat) : Int) (by omega) (by omega)
  have h3 := (count_lib b hb).2.2.2
  refine h2.trans ?_
  rw [← h3]
  show ((cntV b : Nat) : Int) % 128 = _
  unfold cntV
  omega

theorem ones_any (b : Nat) (w : World) (hb : b < W64) :
    Calls Tryz.prog 222 #[.int .u64 (b : Int)] w fun e w' => e = .returned (.int .i64 ((listN b).length : Nat)) ∧ w = w' := by
  have HB := H_ hb
  clear hb
  go_enter Tryz.func222, Tryz.ntmps222
  go_wp2
  go_ret
  refine ⟨ret_int ?_, rfl⟩
  rw [ones1 b HB.out, ones2 b HB.out, ones3 b HB.out, ones4 b HB.out, ones5 b HB.out, ones6 b HB.out]
  exact ones7 b HB.out

theorem count_any (b : Nat) (w : World) (hb : b < W64) :
    Calls Tryz.prog 163 #[.int .u64 (b : Int)] w fun e w' => e = .returned (.int .i64 ((listN b).length : Nat)) ∧ w = w' := by
  have HB := H_ hb
  clear hb
  go_enter Tryz.func163, Tryz.ntmps163
  go_wp2_with (go_at_call 222; refine (ones_any _ _ HB.out).mono ?_; rintro e w' ⟨rfl, rfl⟩)
  go_ret
  exact ⟨rfl, rfl⟩
/-! The least square. -/
def dbTab : List Int := [0, 1, 56, 2, 57, 49, 28, 3, 61, 58, 42, 50, 38, 29, 17, 4, 62, 47, 59, 36, 45, 43, 51, 22, 53, 39, 33, 30, 24, 18, 12, 5, 63, 55, 48, 27, 60, 41, 37, 16, 46, 35, 44, 21, 52, 32, 23, 11, 54, 26, 40, 15, 34, 20, 31, 10, 25, 14, 19, 9, 13, 8, 7, 6]
def TabDb (w : World) : Prop := ∀ j, j < 64 → w.cell? ⟨2, j, none⟩ = some (.int .u8 (dbTab.getD j 0))
theorem dbTab_eq : ∀ j, j < 64 → dbTab.getD j 0 = ((Lib.deBruijn64tab.getD j 0 : Nat) : Int) := by decide
theorem tz_core (x k idx : Nat) (w : World) (hx0 : ((x : Int) == 0) = false)
    (key : IntKind.u64.wrap (bits BinOp.and IntKind.u64 (x : Int) (IntKind.u64.wrap (-(x : Int))) * 285870213051353865) / 288230376151711744 = (idx : Int))
    (hi : idx < 64) (hk : k < 64) (hcell : w.cell? ⟨2, idx, none⟩ = some (.int .u8 k)) :
    Calls Tryz.prog 144 #[.int .u64 x] w fun e w' => e = .returned (.int .i64 k) ∧ w = w' := by
  go_enter Tryz.func144, Tryz.ntmps144
  go_wp2_with (simp only [key])
  go_ret
  exact ⟨rfl, rfl⟩
theorem tz_key (x a : Nat) (hx : x < W64) (hx0 : x ≠ 0) (hlow : x &&& (18446744073709551616 - x) = a) :
    IntKind.u64.wrap (bits BinOp.and IntKind.u64 (x : Int) (IntKind.u64.wrap (-(x : Int))) * 285870213051353865) / 288230376151711744 = ((a * 285870213051353865 % 18446744073709551616 / 288230376151711744 : Nat) : Int) := by
  unfold W64 at hx
  have e1 : IntKind.u64.wrap (-(x : Int)) = ((18446744073709551616 - x : Nat) : Int) := by rw [IntKind.wrap_u64]; omega
  rw [e1, bits_and_u64_nat x _ hx (by omega), hlow, IntKind.wrap_u64]
  omega
theorem tz_any (x : Nat) (w : World) (hx : x < W64) (hx0 : x ≠ 0) (hT : TabDb w) :
    Calls Tryz.prog 144 #[.int .u64 x] w fun e w' => e = .returned (.int .i64 (Lib.ctz 64 x : Nat)) ∧ w = w' := by
  obtain ⟨hlow, hk⟩ := Lib.lowest_bit 64 x hx0 hx
  obtain ⟨hi, htab⟩ := Lib.deBruijn64_at _ hk
  have hcell := hT _ (by simpa using hi)
  rw [dbTab_eq _ (by simpa using hi), htab] at hcell
  exact tz_core x _ _ w (by simp; omega) (tz_key x _ hx hx0 hlow) hi hk hcell
def firstN (b : Nat) : Int := match listN b with | [] => -1 | s :: _ => (s : Int)
theorem filter_least (p : Nat → Bool) (c : Nat) : ∀ l : List Nat, l.Pairwise (· < ·) → c ∈ l → p c = true → (∀ x ∈ l, x < c → p x = false) → l.filter p = c :: l.filter fun x => p x && decide (x ≠ c)
  | [], _, h, _, _ => by cases h
  | a :: l, hp, hc, h1, h2 => by
    rw [List.pairwise_cons] at hp
    by_cases e : a = c
    · subst e
      have : ∀ x ∈ l, p x = (p x && decide (x ≠ a)) := fun x hx => by
        have h := hp.1 x hx
        have hne : x ≠ a := by omega
        simp [hne]
      rw [List.filter_cons_of_pos h1, List.filter_cons_of_neg (by simp), List.filter_congr this]
    · have hcl : c ∈ l := by simpa [Ne.symm e] using hc
      have ha : p a = false := h2 a (by simp) (hp.1 c hcl)
      rw [List.filter_cons_of_neg (by simp [ha]), List.filter_cons_of_neg (by simp [ha])]
      exact filter_least p c l hp.2 hcl h1 (fun x hx => h2 x (by simp [hx]))
def restN (b : Nat) : Nat := b &&& (b - 1)
theorem restN_lt {b : Nat} (hb : b < W64) : restN b < W64 := Nat.and_lt_two_pow (n := 64) _ (Nat.lt_of_le_of_lt (Nat.sub_le _ _) hb)
theorem low_bits (c m i : Nat) : (2 ^ c * (2 * m + 1)).testBit i = (decide (c ≤ i) && (decide (i = c) || m.testBit (i - c - 1))) := by
  rw [Nat.mul_comm, ← Nat.shiftLeft_eq, Nat.testBit_shiftLeft]
  by_cases h : c ≤ i
  · by_cases h2 : i = c
    · subst h2; simp
    · obtain ⟨j, rfl⟩ : ∃ j, i = c + 1 + j := ⟨i - c - 1, by omega⟩
      have e : c + 1 + j - c = j + 1 := by omega
      have e2 : (2 * m + 1) / 2 = m := by omega
      rw [e, Nat.testBit_succ, e2]; simp [h2]
  · simp [h]
theorem low_pred (c m i : Nat) : (2 ^ c * (2 * m + 1) - 1).testBit i = if i < c then true else decide (i ≠ c) && m.testBit (i - c - 1) := by
  have hp : 0 < 2 ^ c := Nat.two_pow_pos c
  have e : 2 ^ c * (2 * m + 1) - 1 = 2 ^ c * (2 * m) + (2 ^ c - 1) := by rw [Nat.mul_add]; omega
  rw [e, Nat.testBit_two_pow_mul_add _ (by omega)]
  split
  · rename_i h; rw [Nat.testBit_two_pow_sub_one, decide_eq_true h]
  · rename_i h
    by_cases h2 : i = c
    · subst h2; simp
    · obtain ⟨j, rfl⟩ : ∃ j, i = c + 1 + j := ⟨i - c - 1, by omega⟩
      have e : c + 1 + j - c = j + 1 := by omega
      have e2 : 2 * m / 2 = m := by omega
      rw [e, Nat.testBit_succ, e2]; simp [h2]
theorem ctz_spec (b : Nat) (hb : b < W64) (h0 : b ≠ 0) : ∃ m, b = 2 ^ Lib.ctz 64 b * (2 * m + 1) ∧ Lib.ctz 64 b < 64 := by
  obtain ⟨m, h1, h2⟩ := Lib.ctzFrom_spec 64 b (by omega) hb
  have e : Lib.ctz 64 b = Lib.ctzFrom 64 b := by simp [Lib.ctz, h0]
  rw [e]; exact ⟨m, h1, h2⟩
theorem listN_rest (b : Nat) (hb : b < W64) (h0 : b ≠ 0) : listN b = Lib.ctz 64 b :: listN (restN b) := by
  obtain ⟨m, h1, h2⟩ := ctz_spec b hb h0
  generalize Lib.ctz 64 b = c at *
  have t1 : ∀ i, b.testBit i = (decide (c ≤ i) && (decide (i = c) || m.testBit (i - c - 1))) := fun i => by rw [h1, low_bits]
  have t3 : ∀ i, (b - 1).testBit i = if i < c then true else decide (i ≠ c) && m.testBit (i - c - 1) := fun i => by rw [h1]; exact low_pred c m i
  have t2 : ∀ i, (restN b).testBit i = (b.testBit i && decide (i ≠ c)) := fun i => by
    rw [restN, Nat.testBit_and]
    rw [t3, t1]
    by_cases a1 : c ≤ i
    · by_cases a2 : i = c
      · subst a2; simp
      · have : ¬ i < c := by omega
        simp [a1, a2, this]
    · simp [a1]
  have := filter_least (fun x => b.testBit x) c (List.range 64) List.pairwise_lt_range (by simpa using h2) (by simp [t1]) (fun x _ hx => by simp [t1]; omega)
  unfold listN listTo
  rw [this]
  congr 1
  apply List.filter_congr
  intro x _
  rw [t2]
theorem listN_zero : listN 0 = [] := by decide
theorem firstN_zero : firstN 0 = -1 := by simp [firstN, listN_zero]
theorem firstN_ctz (b : Nat) (hb : b < W64) (h0 : b ≠ 0) : firstN b = (Lib.ctz 64 b : Nat) := by rw [firstN, listN_rest b hb h0]
theorem first_any (b : Nat) (w : World) (hb : b < W64) (hT : TabDb w) :
    Calls Tryz.prog 71 #[.int .u64 (b : Int)] w fun e w' => e = .returned (.int .i64 (firstN b)) ∧ w = w' := by
  have HT := H_ hT
  by_cases h0 : b = 0
  · subst h0
    clear hb hT
    go_enter Tryz.func71, Tryz.ntmps71
    go_wp2
    go_ret
    exact ⟨ret_int firstN_zero.symm, rfl⟩
  · have HF := H_ (firstN_ctz b hb h0)
    have H0 := H_ h0
    have HB := H_ hb
    have hne : ((b : Int) == 0) = false := by simp; omega
    clear hb hT h0
    go_enter Tryz.func71, Tryz.ntmps71
    go_wp2_with (go_at_call 144; refine (tz_any _ _ HB.out H0.out HT.out).mono ?_; rintro e w' ⟨rfl, rfl⟩)
    go_ret
    exact ⟨ret_int HF.out.symm, rfl⟩

/-! Steps. -/
theorem edge_any (d : Int) (w : World) (hd : 0 ≤ d ∧ d < 8) :
    Calls Tryz.prog 240 #[.int .i64 d] w fun e w' => e = .returned (.int .u64 (edgeN d : Nat)) ∧ w = w' := by
  have : d = 0 ∨ d = 1 ∨ d = 2 ∨ d = 3 ∨ d = 4 ∨ d = 5 ∨ d = 6 ∨ d = 7 := by omega
  clear hd
  rcases this with rfl | rfl | rfl | rfl | rfl | rfl | rfl | rfl
  all_goals
    go_enter Tryz.func240, Tryz.ntmps240
    go_wp2
    go_ret
    exact ⟨ret_int (by decide), rfl⟩
def leadsTab : List Int := [8, 9, 1, -7, -8, -9, -1, 7]
def TabLead (w : World) : Prop := ∀ j, j < 8 → w.cell? ⟨4, j, none⟩ = some (.int .i64 (leadsTab.getD j 0))
theorem leadsTab_at : ∀ j, j < 8 → leadsTab.getD j 0 = leadD (j : Int) := by decide
theorem lead_bd : ∀ j, j < 8 → -9 ≤ leadD ((j : Nat) : Int) ∧ leadD ((j : Nat) : Int) ≤ 9 := by decide
theorem cast_div_pow (a k : Nat) : ((a : Int) / 2 ^ k) = ((a / 2 ^ k : Nat) : Int) := by simp
theorem wrap_mul_pow (a k : Nat) : IntKind.u64.wrap ((a : Int) * 2 ^ k) = ((a * 2 ^ k % W64 : Nat) : Int) := by
  rw [← wrap_mul]; simp
theorem shift_dn (b n : Nat) (l : Int) (w : World) (hb : b < W64) (hn : n < 8) (hl : l < 0) (hl2 : -9 ≤ l) (hc : w.cell? ⟨4, n, none⟩ = some (.int .i64 l)) :
    Calls Tryz.prog 203 #[.int .u64 (b : Int), .int .i64 (n : Int)] w fun e w' => e = .returned (.int .u64 ((keptN b (n : Int) / 2 ^ (-l).toNat : Nat) : Int)) ∧ w = w' := by
  have HB := H_ (andNot_nat hb (edgeN_lt (n : Int)))
  clear hb
  go_enter Tryz.func203, Tryz.ntmps203
  go_wp2_with (go_at_call 240; refine (edge_any _ _ ⟨by omega, by omega⟩).mono ?_; rintro e w' ⟨rfl, rfl⟩)
  go_ret
  refine ⟨ret_int ?_, rfl⟩
  rw [HB.out]
  exact cast_div_pow _ _
theorem shift_ups (b n : Nat) (l : Int) (w : World) (hb : b < W64) (hn : n < 8) (hl : 0 ≤ l) (hl2 : l ≤ 9) (hc : w.cell? ⟨4, n, none⟩ = some (.int .i64 l)) :
    Calls Tryz.prog 203 #[.int .u64 (b : Int), .int .i64 (n : Int)] w fun e w' => e = .returned (.int .u64 ((keptN b (n : Int) * 2 ^ l.toNat % W64 : Nat) : Int)) ∧ w = w' := by
  have HB := H_ (andNot_nat hb (edgeN_lt (n : Int)))
  clear hb
  go_enter Tryz.func203, Tryz.ntmps203
  go_wp2_with (go_at_call 240; refine (edge_any _ _ ⟨by omega, by omega⟩).mono ?_; rintro e w' ⟨rfl, rfl⟩)
  go_ret
  refine ⟨ret_int ?_, rfl⟩
  rw [HB.out]
  exact wrap_mul_pow _ _
theorem shift_any (b : Nat) (d : Int) (w : World) (hb : b < W64) (hT : TabLead w) :
    Calls Tryz.prog 203 #[.int .u64 (b : Int), .int .i64 d] w fun e w' => e = .returned (.int .u64 (shiftN b d : Nat)) ∧ w = w' := by
  by_cases hd : 0 ≤ d ∧ d < 8
  · obtain ⟨n, rfl⟩ := Int.eq_ofNat_of_zero_le hd.1
    have hn : n < 8 := by omega
    have hc := hT n hn
    rw [leadsTab_at n hn] at hc
    have hbd := lead_bd n hn
    by_cases hl : leadD (n : Int) < 0
    · rw [← shift_down hb (n : Int) hd hl]
      exact shift_dn b n _ w hb hn hl hbd.1 hc
    · rw [← shift_up b (n : Int) hd (by omega)]
      exact shift_ups b n _ w hb hn (by omega) hbd.2 hc
  · have HS := H_ (shiftN_out b (dirB_false.2 (show d < 0 ∨ 8 ≤ d by omega)))
    clear hb hT
    by_cases h0 : d < 0
    · clear hd
      go_enter Tryz.func203, Tryz.ntmps203
      go_wp2
      go_ret
      exact ⟨ret_int (by rw [HS.out]; rfl), rfl⟩
    · have h1 : 8 ≤ d := by omega
      clear hd
      go_enter Tryz.func203, Tryz.ntmps203
      go_wp2
      go_ret
      exact ⟨ret_int (by rw [HS.out]; rfl), rfl⟩
end Go.Proofs.YteblmnbagbdiiaaGreatDoor
/-
  Contracts of the program's set, Of, All.
-/
namespace Go.Proofs.YteblmnbagbdiiaaGreatDoor
open Go.RowKit
set_option linter.unusedVariables false

def bdTo (f : Int → Bool) (p : Nat → Int) : Nat → Nat
  | 0 => 0
  | k + 1 => bif f (p (1 + k)) then putN (bdTo f p k) (k : Int) else bdTo f p k
def setN (f : Int → Bool) (p : Nat → Int) : Nat := bdTo f p 64
theorem bdTo_lt (f : Int → Bool) (p : Nat → Int) : ∀ k, bdTo f p k < W64
  | 0 => by show 0 < W64; decide
  | k + 1 => by
    unfold bdTo
    cases f (p (1 + k))
    · exact bdTo_lt f p k
    · exact putN_lt (bdTo_lt f p k) _
theorem setN_lt (f : Int → Bool) (p : Nat → Int) : setN f p < W64 := bdTo_lt f p 64
theorem bdTo_yes {f : Int → Bool} {p : Nat → Int} {k : Nat} (h : f (p (1 + k)) = true) : putN (bdTo f p k) (k : Int) = bdTo f p (k + 1) := by rw [bdTo, h]; rfl
theorem bdTo_no {f : Int → Bool} {p : Nat → Int} {k : Nat} (h : f (p (1 + k)) = false) : bdTo f p k = bdTo f p (k + 1) := by rw [bdTo, h]; rfl
theorem bdTo_testBit (f : Int → Bool) (p : Nat → Int) : ∀ k, k ≤ 64 → ∀ i, (bdTo f p k).testBit i = (decide (i < k) && f (p (1 + i)))
  | 0, _, i => by simp [bdTo]
  | k + 1, hk, i => by
    have ih := bdTo_testBit f p k (by omega) i
    by_cases e : i = k
    · subst e
      cases h : f (p (1 + i))
      · rw [← bdTo_no h, ih, h]; simp
      · rw [← bdTo_yes h, putN_testBit, sq_true.2 ⟨by omega, by omega⟩]; simp
    · have hd : decide (i < k + 1) = decide (i < k) := by simp; omega
      rw [hd, ← ih]
      cases h : f (p (1 + k))
      · rw [← bdTo_no h]
      · rw [← bdTo_yes h, putN_testBit, decide_eq_false (show ¬ (k : Int) = (i : Int) by omega)]; simp
theorem setN_testBit (f : Int → Bool) (p : Nat → Int) (i : Nat) (hi : i < 64) : (setN f p).testBit i = f (p (1 + i)) := by
  unfold setN; rw [bdTo_testBit f p 64 (Nat.le_refl _), decide_eq_true hi, Bool.true_and]

def bdA (p : Nat → Int) : Array Value := (partL p 1 64).toArray
theorem bdA_size (p : Nat → Int) : (bdA p).size = 64 := by simp [bdA, partL_len]
theorem bdA_get (p : Nat → Int) (i : Nat) (h : i < 64) : (bdA p)[i]? = some (.int .u8 (p (1 + i))) := by
  unfold bdA; simp only [List.getElem?_toArray]
  have : (partL p 1 64)[i]? = some (.int (kAt (1 + i)) (p (1 + i))) := by simp [partL, h]
  rw [this, kAt_board (by omega) h]
theorem size22 : (Tryz.prog.info? 22).map (·.size) = some 64 := by kernel_rfl

theorem run_bd (p : Nat → Int) (k : Nat) (h : k < 64) (w : World) : (Instr.index 22 (.agg (bdA p)) (.int .i64 (k : Int))).run Tryz.prog w = .ok (.int .u8 (p (1 + k))) w := by
  have hg := bdA_get p k h
  have hs : ∀ w, (sizeOf 5).run Tryz.prog w = .ok 1 w := fun w => by
    cases hq : Tryz.prog.info? 5 with
    | none => have := size5; simp [hq] at this
    | some i => have := size5; simp [hq] at this; simp [sizeOf, typeInfo, hq, this]
  have ha : ∀ w, (isAgg 5).run Tryz.prog w = .ok false w := fun w => by
    unfold isAgg; rw [Sem.run_bind, run_underlying Tryz.underlying5 w]; simp
  simp [Instr.index, asIntOf, run_underlying Tryz.underlying22, hs, ha, part, hg]
  intro hh; omega

section laws
variable {ops : Array Oper} {rest : List Oper} {op : Oper} {a : Act} {w : World} {Q : Exit → Act → World → Prop}
theorem step_board (hgd : op.guard = none) (x : Operand) (ho : op.op = .load 22 x) (b : Nat) (hx : a.eval x = .pointer (some ⟨b, 1, none⟩)) (p : Nat → Int) (hr : Row w b p)
    (h : wpList Tryz.prog ops Q rest (a.put op.dst (.agg (bdA p))) w) : wpList Tryz.prog ops Q (op :: rest) a w :=
  wpList_load_mid hgd 22 x ho b 1 hx (partL p 1 64) _ (hr.range 1 64 (by omega)) Tryz.underlying22 rfl (by rw [partL_len]; exact size22) h
theorem step_own (hgd : op.guard = none) (x : Operand) (ho : op.op = .load 22 x) (b : Nat) (hx : a.eval x = .pointer (some ⟨b, 0, none⟩)) (p : Nat → Int) (hr : w.heap[b]? = some (.cells (bdA p) 22 (0, 0)))
    (h : wpList Tryz.prog ops Q rest (a.put op.dst (.agg (bdA p))) w) : wpList Tryz.prog ops Q (op :: rest) a w :=
  wpList_load_row hgd 22 x ho b hx 22 (bdA p) (0, 0) _ hr Tryz.underlying22 rfl (by rw [bdA_size]; exact size22) h
end laws

def ofB (c k n : Int) : Bool := pcB n && ((colZ n == c) && ((k == 0) || (kndZ n == k)))
def DrewP (v : Value) (w : World) (e : Ending) (w' : World) : Prop := e = .returned v ∧ ∃ m, w' = w.drewN m
theorem is_at {p : Int} {b : Bool} (h : pcB p = b) (w : World) (hp : 0 ≤ p) (hq : p ≤ 255) : Calls Tryz.prog 125 #[.int .u8 p] w (Bo b w) := h ▸ is_any p w hp hq
theorem cls_0 (n c k : Int) (w : World) (b1 b2 : Nat) (h0 : 0 ≤ n) (h1 : n ≤ 255) (hc : w.cell? ⟨b1, 0, none⟩ = some (.int .u8 c)) (hk : w.cell? ⟨b2, 0, none⟩ = some (.int .u8 k)) (g0 : pcB n = false) :
    Calls Tryz.prog 146 #[.int .u8 n, .pointer (some ⟨b1, 0, none⟩), .pointer (some ⟨b2, 0, none⟩)] w (DrewP (.bool (ofB c k n)) w) := by
  have HS := H_ (show ofB c k n = false by simp [ofB, g0])
  have H0 := H_ g0
  clear g0
  go_enter Tryz.func146, Tryz.ntmps146
  go_wp2
  go_quiet ((first | (go_at_call 125; exact quiet_c (is_at H0.out _ h0 h1))))
  go_wp2
  go_ret
  exact ⟨pc_bool HS.out.symm, _, rfl⟩
theorem cls_1 (n c k : Int) (w : World) (b1 b2 : Nat) (h0 : 0 ≤ n) (h1 : n ≤ 255) (hc : w.cell? ⟨b1, 0, none⟩ = some (.int .u8 c)) (hk : w.cell? ⟨b2, 0, none⟩ = some (.int .u8 k)) (g0 : pcB n = true) (g1 : (colZ n == c) = false) :
    Calls Tryz.prog 146 #[.int .u8 n, .pointer (some ⟨b1, 0, none⟩), .pointer (some ⟨b2, 0, none⟩)] w (DrewP (.bool (ofB c k n)) w) := by
  have HS := H_ (show ofB c k n = false by simp [ofB, g1])
  have H0 := H_ g0
  clear g0
  go_enter Tryz.func146, Tryz.ntmps146
  go_wp2
  go_quiet ((first | (go_at_call 125; exact quiet_c (is_at H0.out _ h0 h1)) | (go_at_call 147; exact quiet_c (col_any _ _ h0 h1))))
  go_wp2
  go_ret
  exact ⟨pc_bool HS.out.symm, _, rfl⟩
theorem cls_2 (n c k : Int) (w : World) (b1 b2 : Nat) (h0 : 0 ≤ n) (h1 : n ≤ 255) (hc : w.cell? ⟨b1, 0, none⟩ = some (.int .u8 c)) (hk : w.cell? ⟨b2, 0, none⟩ = some (.int .u8 k)) (g0 : pcB n = true) (g1 : (colZ n == c) = true) (g2 : (k == 0) = false) :
    Calls Tryz.prog 146 #[.int .u8 n, .pointer (some ⟨b1, 0, none⟩), .pointer (some ⟨b2, 0, none⟩)] w (DrewP (.bool (ofB c k n)) w) := by
  have HS := H_ (show ofB c k n = (kndZ n == k) by simp only [ofB, g0, g1, g2]; simp)
  have H0 := H_ g0
  clear g0
  go_enter Tryz.func146, Tryz.ntmps146
  go_wp2
  go_quiet ((first | (go_at_call 125; exact quiet_c (is_at H0.out _ h0 h1)) | (go_at_call 147; exact quiet_c (col_any _ _ h0 h1)) | (go_at_call 138; exact quiet_c (knd_any _ _ h0 h1))))
  go_wp2
  go_ret
  exact ⟨pc_bool HS.out.symm, _, rfl⟩
theorem cls_3 (n c k : Int) (w : World) (b1 b2 : Nat) (h0 : 0 ≤ n) (h1 : n ≤ 255) (hc : w.cell? ⟨b1, 0, none⟩ = some (.int .u8 c)) (hk : w.cell? ⟨b2, 0, none⟩ = some (.int .u8 k)) (g0 : pcB n = true) (g1 : (colZ n == c) = true) (g2 : (k == 0) = true) :
    Calls Tryz.prog 146 #[.int .u8 n, .pointer (some ⟨b1, 0, none⟩), .pointer (some ⟨b2, 0, none⟩)] w (DrewP (.bool (ofB c k n)) w) := by
  have HS := H_ (show ofB c k n = true by simp only [ofB, g0, g1, g2]; simp)
  have H0 := H_ g0
  clear g0
  go_enter Tryz.func146, Tryz.ntmps146
  go_wp2
  go_quiet ((first | (go_at_call 125; exact quiet_c (is_at H0.out _ h0 h1)) | (go_at_call 147; exact quiet_c (col_any _ _ h0 h1))))
  go_wp2
  go_ret
  exact ⟨pc_bool HS.out.symm, _, rfl⟩
theorem cls_any (n c k : Int) (w : World) (b1 b2 : Nat) (h0 : 0 ≤ n) (h1 : n ≤ 255) (hc : w.cell? ⟨b1, 0, none⟩ = some (.int .u8 c)) (hk : w.cell? ⟨b2, 0, none⟩ = some (.int .u8 k)) :
    Calls Tryz.prog 146 #[.int .u8 n, .pointer (some ⟨b1, 0, none⟩), .pointer (some ⟨b2, 0, none⟩)] w (DrewP (.bool (ofB c k n)) w) := by
  cases g0 : pcB n
  · exact cls_0 n c k w b1 b2 h0 h1 hc hk g0
  · cases g1 : (colZ n == c)
    · exact cls_1 n c k w b1 b2 h0 h1 hc hk g0 g1
    · cases g2 : (k == 0)
      · exact cls_2 n c k w b1 b2 h0 h1 hc hk g0 g1 g2
      · exact cls_3 n c k w b1 b2 h0 h1 hc hk g0 g1 g2
theorem set_is (p : Nat → Int)  (w : World) (hp : BdR p) :
    Calls Tryz.prog 145 #[.agg (bdA p), .func (.func 125) #[] #[]] w (U64Post (setN pcB p) w) := by
  have HP := H_ hp
  clear hp
  go_enter Tryz.func145, Tryz.ntmps145
  go_wp2_with (refine step_own rfl _ rfl _ rfl p (heap_alloc_new w _) ?_)
  go_loopw [5, 9] (fun x i wr => ∃ k : Nat, k ≤ 64 ∧ i = .int .i64 (k : Int) ∧ x = .int .u64 (bdTo pcB p k : Nat) ∧ Below w.heap.size w wr) (fun _ i _ => 64 - (intOf i).toNat)
  case atStart => exact ⟨0, by omega, rfl, rfl, box_below _ _⟩
  case round =>
    obtain ⟨k, hk, rfl, rfl, hb⟩ := hrel
    have HB := H_ hb
    clear hb
    by_cases hlt : k < 64
    · obtain ⟨r0, r1⟩ := HP.out k hlt
      have hc := run_bd p k hlt
      have HX := H_ (bdTo_lt pcB p k)
      have HY := H_ (bdTo_yes (f := pcB) (p := p) (k := k))
      have HN := H_ (bdTo_no (f := pcB) (p := p) (k := k))
      obtain ⟨n, Hn⟩ : ∃ n, Hid (p (1 + k) = n) := ⟨_, H_ rfl⟩
      rw [Hn.out] at hc r0 r1
      cases h1 : pcB n
      · have HS := H_ h1
        go_wp2_with fail
        refine (is_any _ _ r0 r1).mono ?_; rintro e w3 ⟨rfl, rfl⟩; have HB1 := HB
        go_wp2_with fail
        go_roundw
        case rel => exact ⟨k + 1, by omega, by go_num, by rw [HN.out (by rw [Hn.out]; exact HS.out)], HB1.out⟩
        case measure => simp [intOf]; omega
      · have HS := H_ h1
        go_wp2_with fail
        refine (is_any _ _ r0 r1).mono ?_; rintro e w3 ⟨rfl, rfl⟩; have HB1 := HB
        go_wp2_with fail
        refine (put_any _ _ _ HX.out).mono ?_; rintro e w3 ⟨rfl, rfl⟩
        go_wp2_with fail
        go_roundw
        case rel => exact ⟨k + 1, by omega, by go_num, by rw [HY.out (by rw [Hn.out]; exact HS.out)], HB1.out⟩
        case measure => simp [intOf]; omega
    · obtain rfl : k = 64 := by omega
      go_wp2_with fail
      go_ret
      exact ⟨rfl, HB.out⟩
theorem set_of (p : Nat → Int) (c q : Int) (b1 b2 : Nat) (w : World) (hp : BdR p) (l1 : b1 < w.heap.size) (l2 : b2 < w.heap.size) (hc : w.cell? ⟨b1, 0, none⟩ = some (.int .u8 c)) (hk : w.cell? ⟨b2, 0, none⟩ = some (.int .u8 q)) :
    Calls Tryz.prog 145 #[.agg (bdA p), .func (.func 146) #[] #[.pointer (some ⟨b1, 0, none⟩), .pointer (some ⟨b2, 0, none⟩)]] w (U64Post (setN (ofB c q) p) w) := by
  have HP := H_ hp
  clear hp
  have HC := H_ (fun (wr : World) (hb : Below w.heap.size w wr) => (hb.cell (p := ⟨b1, 0, none⟩) l1).trans hc)
  have HK := H_ (fun (wr : World) (hb : Below w.heap.size w wr) => (hb.cell (p := ⟨b2, 0, none⟩) l2).trans hk)
  clear hc hk
  go_enter Tryz.func145, Tryz.ntmps145
  go_wp2_with (refine step_own rfl _ rfl _ rfl p (heap_alloc_new w _) ?_)
  go_loopw [5, 9] (fun x i wr => ∃ k : Nat, k ≤ 64 ∧ i = .int .i64 (k : Int) ∧ x = .int .u64 (bdTo (ofB c q) p k : Nat) ∧ Below w.heap.size w wr) (fun _ i _ => 64 - (intOf i).toNat)
  case atStart => exact ⟨0, by omega, rfl, rfl, box_below _ _⟩
  case round =>
    obtain ⟨k, hk, rfl, rfl, hb⟩ := hrel
    have HB := H_ hb
    clear hb
    by_cases hlt : k < 64
    · obtain ⟨r0, r1⟩ := HP.out k hlt
      have hc := run_bd p k hlt
      have HX := H_ (bdTo_lt (ofB c q) p k)
      have HY := H_ (bdTo_yes (f := (ofB c q)) (p := p) (k := k))
      have HN := H_ (bdTo_no (f := (ofB c q)) (p := p) (k := k))
      obtain ⟨n, Hn⟩ : ∃ n, Hid (p (1 + k) = n) := ⟨_, H_ rfl⟩
      rw [Hn.out] at hc r0 r1
      cases h1 : (ofB c q) n
      · have HS := H_ h1
        go_wp2_with fail
        refine (cls_any n c q _ b1 b2 r0 r1 (HC.out _ HB.out) (HK.out _ HB.out)).mono ?_; rintro e w3 ⟨rfl, m, rfl⟩; have HB1 := H_ (below_drewN HB.out m)
        go_wp2_with fail
        go_roundw
        case rel => exact ⟨k + 1, by omega, by go_num, by rw [HN.out (by rw [Hn.out]; exact HS.out)], HB1.out⟩
        case measure => simp [intOf]; omega
      · have HS := H_ h1
        go_wp2_with fail
        refine (cls_any n c q _ b1 b2 r0 r1 (HC.out _ HB.out) (HK.out _ HB.out)).mono ?_; rintro e w3 ⟨rfl, m, rfl⟩; have HB1 := H_ (below_drewN HB.out m)
        go_wp2_with fail
        refine (put_any _ _ _ HX.out).mono ?_; rintro e w3 ⟨rfl, rfl⟩
        go_wp2_with fail
        go_roundw
        case rel => exact ⟨k + 1, by omega, by go_num, by rw [HY.out (by rw [Hn.out]; exact HS.out)], HB1.out⟩
        case measure => simp [intOf]; omega
    · obtain rfl : k = 64 := by omega
      go_wp2_with fail
      go_ret
      exact ⟨rfl, HB.out⟩
end Go.Proofs.YteblmnbagbdiiaaGreatDoor
/-
  Contracts of the program's Of, All, Find, Count.
-/
namespace Go.Proofs.YteblmnbagbdiiaaGreatDoor
open Go.RowKit
set_option linter.unusedVariables false

def ofN (p : Nat → Int) (c k : Int) : Nat := setN (ofB c k) p
def occN (p : Nat → Int) : Nat := setN pcB p
theorem ofN_lt (p : Nat → Int) (c k : Int) : ofN p c k < W64 := setN_lt _ _
theorem occN_lt (p : Nat → Int) : occN p < W64 := setN_lt _ _
theorem ofN_testBit (p : Nat → Int) (c k : Int) (i : Nat) (hi : i < 64) : (ofN p c k).testBit i = ofB c k (p (1 + i)) := setN_testBit _ _ i hi
theorem occN_testBit (p : Nat → Int) (i : Nat) (hi : i < 64) : (occN p).testBit i = pcB (p (1 + i)) := setN_testBit _ _ i hi
theorem size_new (w : World) (o : Obj) : (w.alloc o).heap.size = w.heap.size + 1 := by show (w.heap.push o).size = _; simp
theorem cell_new (w : World) (v : Value) (t : TypeId) : (w.alloc (.cells #[v] t)).cell? ⟨w.heap.size, 0, none⟩ = some v := by
  rw [cell_of_row _ _ _ _ _ _ (heap_alloc_new w _)]; rfl
theorem cell_mid (w : World) (o o2 : Obj) (v : Value) (t : TypeId) : (((w.alloc o).alloc (.cells #[v] t)).alloc o2).cell? ⟨w.heap.size + 1, 0, none⟩ = some v := by
  rw [(box_below _ o2).cell (by rw [size_new, size_new]; simp), ← size_new w o]; exact cell_new _ _ _
theorem cell_top (w : World) (o o2 : Obj) (v : Value) (t : TypeId) : (((w.alloc o).alloc o2).alloc (.cells #[v] t)).cell? ⟨w.heap.size + 1 + 1, 0, none⟩ = some v := by
  rw [← size_new w o, ← size_new _ o2]; exact cell_new _ _ _
theorem row_new (w : World) (p : Nat → Int) : Row (w.alloc (.cells (posA p) 31)) w.heap.size p := heap_alloc_new w _
theorem row_old {w : World} {b : Nat} {p : Nat → Int} (h : Row w b p) (o : Obj) : Row (w.alloc o) b p := h.later (box_below _ _)
theorem TabDb.on {w w' : World} (h : TabDb w) (hb : Below w.heap.size w w') : TabDb w' := fun j hj => (hb.cell (block_lt_of_cell (h j hj))).trans (h j hj)
theorem of_any (p : Nat → Int) (c k : Int) (w : World) (hp : BdR p) : Calls Tryz.prog 72 #[.agg (posA p), .int .u8 c, .int .u8 k] w (U64Post (ofN p c k) w) := by
  have HP := H_ hp
  clear hp
  go_enter Tryz.func72, Tryz.ntmps72
  go_wp2_with (refine step_board rfl _ rfl _ rfl p (row_old (row_old (row_new w p) _) _) ?_)
  refine (set_of p c k _ _ _ HP.out ?_ ?_ ?_ ?_).mono ?_
  iterate 2 (rw [size_new, size_new, size_new]; omega)
  · exact cell_mid w _ _ _ _
  · exact cell_top w _ _ _ _
  rintro e w1 ⟨rfl, hb⟩
  have HB := H_ (below_on (below_on (below_on (box_below w _) (box_below _ _)) (box_below _ _)) hb)
  clear hb
  go_wp2_with fail
  go_ret
  exact ⟨rfl, HB.out⟩
theorem all_set (p : Nat → Int) (w : World) (hp : BdR p) : Calls Tryz.prog 82 #[.agg (posA p)] w (U64Post (occN p) w) := by
  have HP := H_ hp
  clear hp
  go_enter Tryz.func82, Tryz.ntmps82
  go_wp2_with (refine step_board rfl _ rfl _ rfl p (row_new w p) ?_)
  refine (set_is p _ HP.out).mono ?_; rintro e w1 ⟨rfl, hb⟩
  have HB := H_ (below_on (box_below w _) hb)
  clear hb
  go_wp2_with fail
  go_ret
  exact ⟨rfl, HB.out⟩
theorem find_set (p : Nat → Int) (c k : Int) (w : World) (hp : BdR p) (hD : TabDb w) : Calls Tryz.prog 31 #[.agg (posA p), .int .u8 c, .int .u8 k] w (IntL (firstN (ofN p c k)) w) := by
  have HP := H_ hp
  have HD := H_ hD
  clear hp hD
  go_enter Tryz.func31, Tryz.ntmps31
  go_wp2_with (refine step_load rfl _ rfl _ rfl p (row_new w p) ?_)
  refine (of_any p c k _ HP.out).mono ?_; rintro e w1 ⟨rfl, hb⟩
  have HB := H_ (below_on (box_below w _) hb)
  clear hb
  go_wp2_with fail
  refine (first_any _ _ (ofN_lt _ _ _) (HD.out.on HB.out)).mono ?_; rintro e w2 ⟨rfl, rfl⟩
  go_wp2_with fail
  go_ret
  exact ⟨rfl, HB.out⟩
def cntN (b : Nat) : Int := ((listN b).length : Nat)
theorem count_set (p : Nat → Int) (c k : Int) (w : World) (hp : BdR p) : Calls Tryz.prog 224 #[.agg (posA p), .int .u8 c, .int .u8 k] w (IntL (cntN (ofN p c k)) w) := by
  have HP := H_ hp
  clear hp
  go_enter Tryz.func224, Tryz.ntmps224
  go_wp2_with (refine step_load rfl _ rfl _ rfl p (row_new w p) ?_)
  refine (of_any p c k _ HP.out).mono ?_; rintro e w1 ⟨rfl, hb⟩
  have HB := H_ (below_on (box_below w _) hb)
  clear hb
  go_wp2_with fail
  refine (count_any _ _ (ofN_lt _ _ _)).mono ?_; rintro e w2 ⟨rfl, rfl⟩
  go_wp2_with fail
  go_ret
  exact ⟨rfl, HB.out⟩
end Go.Proofs.YteblmnbagbdiiaaGreatDoor
/-
  Boards on which nothing but pieces stands.
-/
namespace Go.Proofs.YteblmnbagbdiiaaGreatDoor
open Go.RowKit
set_option linter.unusedVariables false

end Go.Proofs.YteblmnbagbdiiaaGreatDoor
