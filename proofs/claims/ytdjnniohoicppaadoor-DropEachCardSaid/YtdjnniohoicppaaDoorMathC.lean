/-
  Plain mathematics of sets of squares, third part: how many squares there are, and the ranks turned about, as the Go library reckons them, byte by byte. Nothing of the program stands here.
-/
import Derived.Test.YtdjnniohoicppaaDoorAtBase
namespace Go.Proofs.YtdjnniohoicppaaDoor

/-! A number out of its bytes. -/
def val : List Nat → Nat
  | [] => 0
  | a :: l => a + 256 * val l
theorem byte_and (a c n m : Nat) (ha : a < 256) (hc : c < 256) : (a + 256 * n) &&& (c + 256 * m) = (a &&& c) + 256 * (n &&& m) := by
  have hac : a &&& c < 2 ^ 8 := Nat.and_lt_two_pow _ hc
  apply Nat.eq_of_testBit_eq
  intro i
  rw [Nat.add_comm a, Nat.add_comm c, Nat.add_comm (a &&& c), Nat.testBit_and]
  have e : (256 : Nat) = 2 ^ 8 := rfl
  rw [e, Nat.testBit_two_pow_mul_add n (by omega), Nat.testBit_two_pow_mul_add m (by omega), Nat.testBit_two_pow_mul_add (n &&& m) hac]
  split <;> rw [Nat.testBit_and]

def f1 (x m : Nat) : Nat := (x / 2 &&& m) + (x &&& m)
def f2 (x m : Nat) : Nat := (x / 4 &&& m) + (x &&& m)
def f3 (x m : Nat) : Nat := (x / 16 + x) &&& m
theorem f1_low : ∀ a, a < 256 → (a + 128 * 0) < 256 ∧ ((a / 2 + 128 * 0) &&& 85) = (a / 2 &&& 85) ∧ ((a / 2 + 128 * 1) &&& 85) = (a / 2 &&& 85) ∧ f1 a 85 < 256 := by decide +kernel
theorem f2_low : ∀ a, a < 256 → ((a / 4 + 64 * 0) &&& 51) = (a / 4 &&& 51) ∧ ((a / 4 + 64 * 1) &&& 51) = (a / 4 &&& 51) ∧ ((a / 4 + 64 * 2) &&& 51) = (a / 4 &&& 51) ∧ ((a / 4 + 64 * 3) &&& 51) = (a / 4 &&& 51) ∧ f2 a 51 < 256 := by decide +kernel
theorem f1_byte (a n m : Nat) (ha : a < 256) : f1 (a + 256 * n) (85 + 256 * m) = f1 a 85 + 256 * f1 n m := by
  unfold f1
  have e : (a + 256 * n) / 2 = (a / 2 + 128 * (n % 2)) + 256 * (n / 2) := by omega
  rw [e, byte_and _ _ _ _ (by omega) (by decide), byte_and _ _ _ _ ha (by decide)]
  have h := f1_low a ha
  have h2 : n % 2 = 0 ∨ n % 2 = 1 := by omega
  rcases h2 with h2 | h2 <;> rw [h2]
  · rw [h.2.1]; omega
  · rw [h.2.2.1]; omega
theorem f2_byte (a n m : Nat) (ha : a < 256) : f2 (a + 256 * n) (51 + 256 * m) = f2 a 51 + 256 * f2 n m := by
  unfold f2
  have e : (a + 256 * n) / 4 = (a / 4 + 64 * (n % 4)) + 256 * (n / 4) := by omega
  rw [e, byte_and _ _ _ _ (by omega) (by decide), byte_and _ _ _ _ ha (by decide)]
  have h := f2_low a ha
  have h2 : n % 4 = 0 ∨ n % 4 = 1 ∨ n % 4 = 2 ∨ n % 4 = 3 := by omega
  rcases h2 with h2 | h2 | h2 | h2 <;> rw [h2]
  · rw [h.1]; omega
  · rw [h.2.1]; omega
  · rw [h.2.2.1]; omega
  · rw [h.2.2.2.1]; omega
def nib (a : Nat) : Prop := a % 16 ≤ 4 ∧ a / 16 ≤ 4
theorem f3_byte (a n m : Nat) (ha : nib a) (hn : n % 16 ≤ 4) : f3 (a + 256 * n) (15 + 256 * m) = (a / 16 + a % 16) + 256 * f3 n m := by
  unfold f3
  unfold nib at ha
  have e : (a + 256 * n) / 16 + (a + 256 * n) = (a / 16 + 16 * (n % 16) + a) + 256 * (n / 16 + n) := by omega
  rw [e, byte_and _ _ _ _ (by omega) (by decide)]
  have h15 : ∀ y : Nat, y &&& 15 = y % 16 := fun y => Nat.and_two_pow_sub_one_eq_mod y 4
  rw [h15]
  omega

def g1 (a : Nat) : Nat := f1 a 85
def g2 (a : Nat) : Nat := f2 (g1 a) 51
def g3 (a : Nat) : Nat := g2 a / 16 + g2 a % 16
def popN : Nat → Nat → Nat
  | 0, _ => 0
  | k + 1, b => b % 2 + popN k (b / 2)
theorem bytes_ok : ∀ a, a < 256 → g1 a < 256 ∧ g2 a < 256 ∧ (g2 a % 16 ≤ 4 ∧ g2 a / 16 ≤ 4) ∧ g3 a = popN 8 a ∧ g3 a ≤ 8 := by decide +kernel

theorem lay1 : ∀ l : List Nat, (∀ a ∈ l, a < 256) → f1 (val l) (val (l.map fun _ => 85)) = val (l.map g1)
  | [], _ => rfl
  | a :: l, h => by
    simp only [val, List.map_cons]
    rw [f1_byte _ _ _ (h a (by simp)), lay1 l (fun x hx => h x (by simp [hx]))]; rfl
theorem lay2 : ∀ l : List Nat, (∀ a ∈ l, a < 256) → f2 (val (l.map g1)) (val (l.map fun _ => 51)) = val (l.map g2)
  | [], _ => rfl
  | a :: l, h => by
    simp only [val, List.map_cons]
    rw [f2_byte _ _ _ (bytes_ok a (h a (by simp))).1, lay2 l (fun x hx => h x (by simp [hx]))]; rfl
theorem low_nib : ∀ l : List Nat, (∀ a ∈ l, a < 256) → val (l.map g2) % 16 ≤ 4
  | [], _ => by decide
  | a :: l, h => by
    simp only [val, List.map_cons]
    have := (bytes_ok a (h a (by simp))).2.2.1.1
    omega
theorem lay3 : ∀ l : List Nat, (∀ a ∈ l, a < 256) → f3 (val (l.map g2)) (val (l.map fun _ => 15)) = val (l.map g3)
  | [], _ => rfl
  | a :: l, h => by
    simp only [val, List.map_cons]
    rw [f3_byte _ _ _ (bytes_ok a (h a (by simp))).2.2.1 (low_nib l (fun x hx => h x (by simp [hx]))), lay3 l (fun x hx => h x (by simp [hx]))]; rfl

theorem popN_byte (a n k : Nat) (ha : a < 256) : popN (k + 8) (a + 256 * n) = popN 8 a + popN k n := by
  have e : (a + 256 * n) / 2 / 2 / 2 / 2 / 2 / 2 / 2 / 2 = n := by omega
  simp only [popN, e]
  omega
theorem popN_val : ∀ l : List Nat, (∀ a ∈ l, a < 256) → popN (8 * l.length) (val l) = (l.map (popN 8)).sum
  | [], _ => rfl
  | a :: l, h => by
    simp only [val, List.map_cons, List.sum_cons, List.length_cons]
    rw [Nat.mul_succ, popN_byte _ _ _ (h a (by simp)), popN_val l (fun x hx => h x (by simp [hx]))]

theorem listTo_pop : ∀ (k b : Nat), (listTo b k).length = popN k b
  | 0, _ => rfl
  | k + 1, b => by
    have ih := listTo_pop k (b / 2)
    unfold listTo at ih ⊢
    rw [List.range_succ_eq_map, List.filter_cons, List.filter_map, popN, ← ih]
    have e : ((fun x => b.testBit x) ∘ Nat.succ) = fun x => (b / 2).testBit x := by
      funext x; simp [Function.comp, Nat.testBit_succ]
    rw [e]
    have h0 : b.testBit 0 = decide (b % 2 = 1) := Nat.testBit_zero b
    by_cases h : b % 2 = 1
    · simp [h0, h]; omega
    · have : b % 2 = 0 := by omega
      simp [h0, this]

def bytesOf (x : Nat) : List Nat := [x % 256, x / 256 % 256, x / 65536 % 256, x / 16777216 % 256, x / 4294967296 % 256, x / 1099511627776 % 256, x / 281474976710656 % 256, x / 72057594037927936]
theorem val_bytesOf (x : Nat) : val (bytesOf x) = x := by simp only [bytesOf, val]; omega
theorem bytesOf_lt {x : Nat} (h : x < W64) : ∀ a ∈ bytesOf x, a < 256 := by
  unfold W64 at h
  intro a ha
  simp only [bytesOf, List.mem_cons, List.not_mem_nil, or_false] at ha
  omega

theorem div_step (k a n : Nat) (ha : a < k) : (a + k * n) / k = n := by
  have hk : 0 < k := by omega
  rw [Nat.add_mul_div_left _ _ hk, Nat.div_eq_of_lt ha, Nat.zero_add]

theorem fold_sum (b0 b1 b2 b3 b4 b5 b6 b7 y z u : Nat) (h0 : b0 ≤ 8) (h1 : b1 ≤ 8) (h2 : b2 ≤ 8) (h3 : b3 ≤ 8) (h4 : b4 ≤ 8) (h5 : b5 ≤ 8) (h6 : b6 ≤ 8) (h7 : b7 ≤ 8)
   (hy : y = b0 + 256 * (b1 + 256 * (b2 + 256 * (b3 + 256 * (b4 + 256 * (b5 + 256 * (b6 + 256 * b7)))))))
   (hz : z = y + y / 256) (hu : u = z + z / 65536) : (u + u / 4294967296) % 128 = b0 + (b1 + (b2 + (b3 + (b4 + (b5 + (b6 + b7)))))) := by
  have e1 : y / 256 = b1 + 256 * (b2 + 256 * (b3 + 256 * (b4 + 256 * (b5 + 256 * (b6 + 256 * b7))))) := by
    rw [hy, div_step _ _ _ (by omega)]
  have e2 : z = ((b0 + b1) + 256 * (b1 + b2)) + 65536 * ((b2 + b3) + 256 * ((b3 + b4) + 256 * ((b4 + b5) + 256 * ((b5 + b6) + 256 * ((b6 + b7) + 256 * b7))))) := by
    rw [hz, e1, hy]; clear hz e1 hy hu; omega
  have e3 : z / 65536 = (b2 + b3) + 256 * ((b3 + b4) + 256 * ((b4 + b5) + 256 * ((b5 + b6) + 256 * ((b6 + b7) + 256 * b7)))) := by
    rw [e2, div_step _ _ _ (by omega)]
  have e4 : u = ((b0 + b1 + b2 + b3) + 256 * ((b1 + b2 + b3 + b4) + 256 * ((b2 + b3 + b4 + b5) + 256 * (b3 + b4 + b5 + b6)))) + 4294967296 * ((b4 + b5 + b6 + b7) + 256 * ((b5 + b6 + b7) + 256 * ((b6 + b7) + 256 * b7))) := by
    rw [hu, e3, e2]; clear hu e3 e2 hz e1 hy; omega
  have e5 : u / 4294967296 = (b4 + b5 + b6 + b7) + 256 * ((b5 + b6 + b7) + 256 * ((b6 + b7) + 256 * b7)) := by
    rw [e4, div_step _ _ _ (by omega)]
  rw [e5, e4]
  clear e5 e4 e3 e2 e1 hz hu hy
  obtain ⟨q, hq⟩ : ∃ q, (b0 + b1 + b2 + b3) + 256 * ((b1 + b2 + b3 + b4) + 256 * ((b2 + b3 + b4 + b5) + 256 * (b3 + b4 + b5 + b6))) + 4294967296 * ((b4 + b5 + b6 + b7) + 256 * ((b5 + b6 + b7) + 256 * ((b6 + b7) + 256 * b7))) + ((b4 + b5 + b6 + b7) + 256 * ((b5 + b6 + b7) + 256 * ((b6 + b7) + 256 * b7))) = (b0 + (b1 + (b2 + (b3 + (b4 + (b5 + (b6 + b7))))))) + 128 * q :=
    ⟨2 * ((b1 + b2 + b3 + b4) + 256 * ((b2 + b3 + b4 + b5) + 256 * (b3 + b4 + b5 + b6))) + 33554432 * ((b4 + b5 + b6 + b7) + 256 * ((b5 + b6 + b7) + 256 * ((b6 + b7) + 256 * b7))) + 2 * ((b5 + b6 + b7) + 256 * ((b6 + b7) + 256 * b7)), by omega⟩
  rw [hq, Nat.add_mul_mod_self_left]
  exact Nat.mod_eq_of_lt (by omega)

theorem val8_le (k a0 a1 a2 a3 a4 a5 a6 a7 : Nat) (h : a0 ≤ k ∧ a1 ≤ k ∧ a2 ≤ k ∧ a3 ≤ k ∧ a4 ≤ k ∧ a5 ≤ k ∧ a6 ≤ k ∧ a7 ≤ k) : val [a0, a1, a2, a3, a4, a5, a6, a7] ≤ k * 72340172838076673 := by
  simp only [val]; omega
def cntY (x : Nat) : Nat := f3 (f2 (f1 x 6148914691236517205) 3689348814741910323) 1085102592571150095
def cntZ (x : Nat) : Nat := cntY x + cntY x / 256
def cntU (x : Nat) : Nat := cntZ x + cntZ x / 65536
/-- How many squares there are, as the library reckons it. -/
theorem count_lib (x : Nat) (hx : x < W64) :
    f1 x 6148914691236517205 ≤ 255 * 72340172838076673 ∧ f2 (f1 x 6148914691236517205) 3689348814741910323 ≤ 68 * 72340172838076673 ∧ cntY x ≤ 8 * 72340172838076673 ∧
      (cntU x + cntU x / 4294967296) % 128 = (listN x).length := by
  have hb := bytesOf_lt hx
  have m1 : (6148914691236517205 : Nat) = val ((bytesOf x).map fun _ => 85) := by simp [bytesOf, val]
  have m2 : (3689348814741910323 : Nat) = val ((bytesOf x).map fun _ => 51) := by simp [bytesOf, val]
  have m3 : (1085102592571150095 : Nat) = val ((bytesOf x).map fun _ => 15) := by simp [bytesOf, val]
  have l1 : f1 x 6148914691236517205 = val ((bytesOf x).map g1) := by
    have := lay1 _ hb
    rwa [← m1, val_bytesOf] at this
  have l2 : f2 (f1 x 6148914691236517205) 3689348814741910323 = val ((bytesOf x).map g2) := by
    have := lay2 _ hb
    rwa [← m2, ← l1] at this
  have l3 : cntY x = val ((bytesOf x).map g3) := by
    have := lay3 _ hb
    rwa [← m3, ← l2] at this
  have hp : (listN x).length = ((bytesOf x).map (popN 8)).sum := by
    rw [listN, listTo_pop, ← popN_val _ hb, val_bytesOf]; rfl
  have c : ∀ a ∈ bytesOf x, g1 a ≤ 255 ∧ g2 a ≤ 68 ∧ g3 a = popN 8 a ∧ g3 a ≤ 8 := fun a ha => by
    have := bytes_ok a (hb a ha); exact ⟨by omega, by omega, this.2.2.2.1, this.2.2.2.2⟩
  rw [l2, l1, hp]
  clear l1 l2 m1 m2 m3 hp hb hx
  unfold bytesOf at *
  have c0 := c _ (.head _)
  have c1 := c _ (.tail _ (.head _))
  have c2 := c _ (.tail _ (.tail _ (.head _)))
  have c3 := c _ (.tail _ (.tail _ (.tail _ (.head _))))
  have c4 := c _ (.tail _ (.tail _ (.tail _ (.tail _ (.head _)))))
  have c5 := c _ (.tail _ (.tail _ (.tail _ (.tail _ (.tail _ (.head _))))))
  have c6 := c _ (.tail _ (.tail _ (.tail _ (.tail _ (.tail _ (.tail _ (.head _)))))))
  have c7 := c _ (.tail _ (.tail _ (.tail _ (.tail _ (.tail _ (.tail _ (.tail _ (.head _))))))))
  clear c
  generalize x % 256 = a0 at *
  generalize x / 256 % 256 = a1 at *
  generalize x / 65536 % 256 = a2 at *
  generalize x / 16777216 % 256 = a3 at *
  generalize x / 4294967296 % 256 = a4 at *
  generalize x / 1099511627776 % 256 = a5 at *
  generalize x / 281474976710656 % 256 = a6 at *
  generalize x / 72057594037927936 = a7 at *
  refine ⟨val8_le _ _ _ _ _ _ _ _ _ ⟨c0.1, c1.1, c2.1, c3.1, c4.1, c5.1, c6.1, c7.1⟩, val8_le _ _ _ _ _ _ _ _ _ ⟨c0.2.1, c1.2.1, c2.2.1, c3.2.1, c4.2.1, c5.2.1, c6.2.1, c7.2.1⟩,
    l3 ▸ val8_le _ _ _ _ _ _ _ _ _ ⟨c0.2.2.2, c1.2.2.2, c2.2.2.2, c3.2.2.2, c4.2.2.2, c5.2.2.2, c6.2.2.2, c7.2.2.2⟩, ?_⟩
  have hs := fold_sum _ _ _ _ _ _ _ _ (cntY x) (cntZ x) (cntU x) c0.2.2.2 c1.2.2.2 c2.2.2.2 c3.2.2.2 c4.2.2.2 c5.2.2.2 c6.2.2.2 c7.2.2.2 l3 rfl rfl
  rw [hs, c0.2.2.1, c1.2.2.1, c2.2.2.1, c3.2.2.1, c4.2.2.1, c5.2.2.1, c6.2.2.1, c7.2.2.1]
  rfl

/-! The ranks turned about, as the library reckons it. -/
theorem m8_bits : ∀ i, i < 64 → (71777214294589695 : Nat).testBit i = decide (i % 16 < 8) := by decide
theorem m16_bits : ∀ i, i < 64 → (281470681808895 : Nat).testBit i = decide (i % 32 < 16) := by decide
def swapB (x m k : Nat) : Nat := (x / 2 ^ k &&& m) ||| ((x &&& m) * 2 ^ k % W64)
theorem swapB_lt {x m : Nat} (hm : m < W64) (k : Nat) : swapB x m k < W64 :=
  Nat.or_lt_two_pow (n := 64) (Nat.and_lt_two_pow (n := 64) _ hm) (Nat.mod_lt _ (by decide))
theorem swapB_testBit (x m k j : Nat) (hm : ∀ i, i < 64 → m.testBit i = decide (i % (2 * k) < k)) (hk : k = 8 ∧ j = 16 ∨ k = 16 ∧ j = 32) (i : Nat) (hi : i < 64) :
    (swapB x m k).testBit i = x.testBit (if i % j < k then i + k else i - k) := by
  rw [swapB, Nat.testBit_or, Nat.testBit_and, ← Nat.shiftRight_eq_div_pow, Nat.testBit_shiftRight, W64_eq, Nat.testBit_mod_two_pow, ← Nat.shiftLeft_eq, Nat.testBit_shiftLeft, Nat.testBit_and, decide_eq_true hi, Bool.true_and, hm i hi]
  have ej : 2 * k = j := by omega
  by_cases h : i % j < k
  · rw [if_pos h, ej, decide_eq_true h, Bool.and_true, Nat.add_comm k i]
    by_cases h2 : k ≤ i
    · rw [hm (i - k) (by omega), ej]
      have : ¬ ((i - k) % j < k) := by rcases hk with ⟨rfl, rfl⟩ | ⟨rfl, rfl⟩ <;> omega
      simp [this]
    · simp [h2]
  · have h2 : k ≤ i := by rcases hk with ⟨rfl, rfl⟩ | ⟨rfl, rfl⟩ <;> omega
    have h3 : (i - k) % j < k := by rcases hk with ⟨rfl, rfl⟩ | ⟨rfl, rfl⟩ <;> omega
    rw [if_neg h, ej, hm (i - k) (by omega), ej]
    simp [h, h2, h3]
def swap32 (x : Nat) : Nat := (x / 2 ^ 32) ||| (x * 2 ^ 32 % W64)
theorem swap32_lt {x : Nat} (hx : x < W64) : swap32 x < W64 :=
  Nat.or_lt_two_pow (n := 64) (Nat.lt_of_le_of_lt (Nat.div_le_self _ _) hx) (Nat.mod_lt _ (by decide))
theorem swap32_testBit (x : Nat) (hx : x < W64) (i : Nat) (hi : i < 64) : (swap32 x).testBit i = x.testBit (if i < 32 then i + 32 else i - 32) := by
  rw [swap32, Nat.testBit_or, ← Nat.shiftRight_eq_div_pow, Nat.testBit_shiftRight, W64_eq, Nat.testBit_mod_two_pow, ← Nat.shiftLeft_eq, Nat.testBit_shiftLeft, decide_eq_true hi, Bool.true_and]
  by_cases h : i < 32
  · rw [if_pos h, Nat.add_comm]; simp; omega
  · rw [if_neg h, testBit_high hx (by omega)]; simp; omega
theorem flip_lib (x : Nat) : swap32 (swapB (swapB x 71777214294589695 8) 281470681808895 16) = flipN x := by
  have h2 : swapB (swapB x 71777214294589695 8) 281470681808895 16 < W64 := swapB_lt (by decide) 16
  apply eq_of_bits (swap32_lt h2) (flipN_lt x)
  intro i hi
  have hi2 : (if i < 32 then i + 32 else i - 32) < 64 := by split <;> omega
  rw [swap32_testBit _ h2 i hi, swapB_testBit _ _ 16 32 m16_bits (.inr ⟨rfl, rfl⟩) _ hi2]
  generalize he2 : (if i < 32 then i + 32 else i - 32) = i2 at *
  have hi3 : (if i2 % 32 < 16 then i2 + 16 else i2 - 16) < 64 := by split <;> omega
  rw [swapB_testBit _ _ 8 16 m8_bits (.inl ⟨rfl, rfl⟩) _ hi3, flipN_testBit x i hi]
  generalize he3 : (if i2 % 32 < 16 then i2 + 16 else i2 - 16) = i3 at *
  congr 1
  unfold flipS
  split at he2 <;> split at he3 <;> split <;> omega

end Go.Proofs.YtdjnniohoicppaaDoor
