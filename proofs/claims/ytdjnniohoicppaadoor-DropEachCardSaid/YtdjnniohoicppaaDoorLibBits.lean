/-
  Contracts of math/bits.OnesCount64, ReverseBytes64, TrailingZeros64, and of the program's Count, First, Flip, edge, Shift.
-/
import Derived.Test.YtdjnniohoicppaaDoorAtBase
import Derived.Test.YtdjnniohoicppaaDoorMathC
import Derived.Lib.TrailingZeros
namespace Go.Proofs.YtdjnniohoicppaaDoor
open Go.RowKit

theorem div_nat (a k : Nat) : ((a : Int) / (k : Int)) = ((a / k : Nat) : Int) := by simp
theorem wrap_add {a b : Nat} (h : a + b < W64) : IntKind.u64.wrap ((a : Int) + (b : Int)) = ((a + b : Nat) : Int) := by
  rw [← wrap_nat _ h]; simp
theorem wrap_mul (a k : Nat) : IntKind.u64.wrap ((a : Int) * (k : Int)) = ((a * k % W64 : Nat) : Int) := by
  rw [IntKind.wrap_u64, Int.natCast_emod, Int.natCast_mul]; rfl
theorem half_lt {a : Nat} (k : Nat) (h : a < W64) : a / k < W64 := Nat.lt_of_le_of_lt (Nat.div_le_self _ _) h

theorem ones1 (b : Nat) (hb : b < W64) : IntKind.u64.wrap (bits .and .u64 ((b : Int) / 2) 6148914691236517205 + bits .and .u64 (b : Int) 6148914691236517205) = ((f1 b 6148914691236517205 : Nat) : Int) := by
  have h := (count_lib b hb).1
  have e1 := and_nat (a := b / 2) (b := 6148914691236517205) (half_lt 2 hb) (by decide)
  have e2 := and_nat (a := b) (b := 6148914691236517205) hb (by decide)
  rw [← div_nat] at e1
  have e3 := wrap_add (a := b / 2 &&& 6148914691236517205) (b := b &&& 6148914691236517205) (by unfold f1 at h; unfold W64; omega)
  rw [← e1, ← e2] at e3
  exact e3
theorem ones2 (b : Nat) (hb : b < W64) : IntKind.u64.wrap (bits .and .u64 (((f1 b 6148914691236517205 : Nat) : Int) / 4) 3689348814741910323 + bits .and .u64 ((f1 b 6148914691236517205 : Nat) : Int) 3689348814741910323) = ((f2 (f1 b 6148914691236517205) 3689348814741910323 : Nat) : Int) := by
  have h0 := (count_lib b hb).1
  have h := (count_lib b hb).2.1
  generalize f1 b 6148914691236517205 = c at *
  have hc : c < W64 := by unfold W64; omega
  have e1 := and_nat (a := c / 4) (b := 3689348814741910323) (half_lt 4 hc) (by decide)
  have e2 := and_nat (a := c) (b := 3689348814741910323) hc (by decide)
  rw [← div_nat] at e1
  have e3 := wrap_add (a := c / 4 &&& 3689348814741910323) (b := c &&& 3689348814741910323) (by unfold f2 at h; unfold W64; omega)
  rw [← e1, ← e2] at e3
  exact e3
theorem ones3 (b : Nat) (hb : b < W64) : bits .and .u64 (IntKind.u64.wrap (((f2 (f1 b 6148914691236517205) 3689348814741910323 : Nat) : Int) / 16 + ((f2 (f1 b 6148914691236517205) 3689348814741910323 : Nat) : Int))) 1085102592571150095 = ((cntY b : Nat) : Int) := by
  have h := (count_lib b hb).2.1
  unfold cntY
  generalize f2 (f1 b 6148914691236517205) 3689348814741910323 = c at *
  have hc : c / 16 + c < W64 := by unfold W64; omega
  have e1 := wrap_add (a := c / 16) (b := c) hc
  rw [← div_nat] at e1
  have e2 := and_nat (a := c / 16 + c) (b := 1085102592571150095) hc (by decide)
  rw [← e1] at e2
  exact e2
theorem ones4 (b : Nat) (hb : b < W64) : IntKind.u64.wrap (((cntY b : Nat) : Int) + ((cntY b : Nat) : Int) / 256) = ((cntZ b : Nat) : Int) := by
  have h := (count_lib b hb).2.2.1
  have e1 := wrap_add (a := cntY b) (b := cntY b / 256) (by unfold W64; omega)
  rw [← div_nat] at e1
  exact e1
theorem ones5 (b : Nat) (hb : b < W64) : IntKind.u64.wrap (((cntZ b : Nat) : Int) + ((cntZ b : Nat) : Int) / 65536) = ((cntU b : Nat) : Int) := by
  have h := (count_lib b hb).2.2.1
  have hz : cntZ b = cntY b + cntY b / 256 := rfl
  have e1 := wrap_add (a := cntZ b) (b := cntZ b / 65536) (by unfold W64; omega)
  rw [← div_nat] at e1
  exact e1
def cntV (b : Nat) : Nat := cntU b + cntU b / 4294967296
theorem cntV_lt (b : Nat) (hb : b < W64) : cntV b ≤ 9223372036854775807 := by
  have h := (count_lib b hb).2.2.1
  have hz : cntZ b = cntY b + cntY b / 256 := rfl
  have hu : cntU b = cntZ b + cntZ b / 65536 := rfl
  have hv : cntV b = cntU b + cntU b / 4294967296 := rfl
  omega
theorem ones6 (b : Nat) (hb : b < W64) : IntKind.u64.wrap (((cntU b : Nat) : Int) + ((cntU b : Nat) : Int) / 4294967296) = ((cntV b : Nat) : Int) := by
  have h := cntV_lt b hb
  have e1 := wrap_add (a := cntU b) (b := cntU b / 4294967296) (by unfold cntV at h; unfold W64; omega)
  rw [← div_nat] at e1
  exact e1

theorem ones7 (b : Nat) (hb : b < W64) : bits .and .i64 (wrap64 ((cntV b : Nat) : Int)) 127 = (((listN b).length : Nat) : Int) := by
  have h := cntV_lt b hb
  have e : wrap64 ((cntV b : Nat) : Int) = ((cntV b : Nat) : Int) := IntWalk.wrap64_in _ ⟨by omega, by omega⟩
  have hw : ∀ n : Int, 0 ≤ n → n < 2 ^ 63 → IntKind.i64.wrap n = n := fun n h0 h1 => by rw [IntKind.wrap_i64]; omega
  rw [e]
  have h2 := bits_mask .i64 63 (by decide) hw 7 (by decide) ((cntV b : Nat) : Int) (by omega) (by omega)
  have h3 := (count_lib b hb).2.2.2
  refine h2.trans ?_
  rw [← h3]
  show ((cntV b : Nat) : Int) % 128 = _
  unfold cntV
  omega

theorem ones_any (b : Nat) (w : World) (hb : b < W64) :
    Calls Tryd.prog 37 #[.int .u64 (b : Int)] w fun e w' => e = .returned (.int .i64 ((listN b).length : Nat)) ∧ w = w' := by
  have HB := Lib.hid hb
  clear hb
  go_enter Tryd.func37, Tryd.ntmps37
  go_wp2
  go_ret
  refine ⟨ret_int ?_, rfl⟩
  rw [ones1 b HB.out, ones2 b HB.out, ones3 b HB.out, ones4 b HB.out, ones5 b HB.out, ones6 b HB.out]
  exact ones7 b HB.out

theorem rev_step {b : Nat} (m k : Nat) (hb : b < W64) (hm : m < W64) :
    bits .or .u64 (bits .and .u64 ((b : Int) / ((2 ^ k : Nat) : Int)) (m : Int)) (IntKind.u64.wrap (bits .and .u64 (b : Int) (m : Int) * ((2 ^ k : Nat) : Int))) = ((swapB b m k : Nat) : Int) := by
  rw [div_nat, and_nat (half_lt _ hb) hm, and_nat hb hm, wrap_mul, or_nat (Nat.and_lt_two_pow (n := 64) _ hm) (Nat.mod_lt _ (by decide))]
  rfl
theorem rev1 (b : Nat) (hb : b < W64) : bits .or .u64 (bits .and .u64 ((b : Int) / 256) 71777214294589695) (IntKind.u64.wrap (bits .and .u64 (b : Int) 71777214294589695 * 256)) = ((swapB b 71777214294589695 8 : Nat) : Int) :=
  rev_step 71777214294589695 8 hb (by decide)
theorem rev2 (b : Nat) (hb : b < W64) : bits .or .u64 (bits .and .u64 ((b : Int) / 65536) 281470681808895) (IntKind.u64.wrap (bits .and .u64 (b : Int) 281470681808895 * 65536)) = ((swapB b 281470681808895 16 : Nat) : Int) :=
  rev_step 281470681808895 16 hb (by decide)
theorem rev3 (b : Nat) (hb : b < W64) : bits .or .u64 ((b : Int) / 4294967296) (IntKind.u64.wrap ((b : Int) * 4294967296)) = ((swap32 b : Nat) : Int) := by
  have e1 := div_nat b (2 ^ 32)
  have e2 := wrap_mul b (2 ^ 32)
  have e3 := or_nat (a := b / 2 ^ 32) (b := b * 2 ^ 32 % W64) (half_lt _ hb) (Nat.mod_lt _ (by decide))
  rw [← e1, ← e2] at e3
  exact e3
theorem count_any (b : Nat) (w : World) (hb : b < W64) :
    Calls Tryd.prog 26 #[.int .u64 (b : Int)] w fun e w' => e = .returned (.int .i64 ((listN b).length : Nat)) ∧ w = w' := by
  have HB := Lib.hid hb
  clear hb
  go_enter Tryd.func26, Tryd.ntmps26
  go_wp2_with (go_at_call 37; refine (ones_any _ _ HB.out).mono ?_; rintro e w' ⟨rfl, rfl⟩)
  go_ret
  exact ⟨rfl, rfl⟩
/-! The least square. -/
def dbTab : List Int := [0, 1, 56, 2, 57, 49, 28, 3, 61, 58, 42, 50, 38, 29, 17, 4, 62, 47, 59, 36, 45, 43, 51, 22, 53, 39, 33, 30, 24, 18, 12, 5, 63, 55, 48, 27, 60, 41, 37, 16, 46, 35, 44, 21, 52, 32, 23, 11, 54, 26, 40, 15, 34, 20, 31, 10, 25, 14, 19, 9, 13, 8, 7, 6]
/-- The library's table lies in its variable. -/
def TabDb (w : World) : Prop := ∀ j, j < 64 → w.cell? ⟨2, j, none⟩ = some (.int .u8 (dbTab.getD j 0))
theorem dbTab_eq : ∀ j, j < 64 → dbTab.getD j 0 = ((Lib.deBruijn64tab.getD j 0 : Nat) : Int) := by decide
theorem tz_core (x k idx : Nat) (w : World) (hx0 : ((x : Int) == 0) = false)
    (key : IntKind.u64.wrap (bits BinOp.and IntKind.u64 (x : Int) (IntKind.u64.wrap (-(x : Int))) * 285870213051353865) / 288230376151711744 = (idx : Int))
    (hi : idx < 64) (hk : k < 64) (hcell : w.cell? ⟨2, idx, none⟩ = some (.int .u8 k)) :
    Calls Tryd.prog 48 #[.int .u64 x] w fun e w' => e = .returned (.int .i64 k) ∧ w = w' := by
  go_enter Tryd.func48, Tryd.ntmps48
  go_wp2_with (simp only [key])
  go_ret
  exact ⟨rfl, rfl⟩
theorem tz_key (x a : Nat) (hx : x < W64) (hx0 : x ≠ 0) (hlow : x &&& (18446744073709551616 - x) = a) :
    IntKind.u64.wrap (bits BinOp.and IntKind.u64 (x : Int) (IntKind.u64.wrap (-(x : Int))) * 285870213051353865) / 288230376151711744 = ((a * 285870213051353865 % 18446744073709551616 / 288230376151711744 : Nat) : Int) := by
  unfold W64 at hx
  have e1 : IntKind.u64.wrap (-(x : Int)) = ((18446744073709551616 - x : Nat) : Int) := by rw [IntKind.wrap_u64]; omega
  rw [e1, bits_and_u64_nat x _ hx (by omega), hlow, IntKind.wrap_u64]
  omega
theorem tz_any (x : Nat) (w : World) (hx : x < W64) (hx0 : x ≠ 0) (hT : TabDb w) :
    Calls Tryd.prog 48 #[.int .u64 x] w fun e w' => e = .returned (.int .i64 (Lib.ctz 64 x : Nat)) ∧ w = w' := by
  obtain ⟨hlow, hk⟩ := Lib.lowest_bit 64 x hx0 hx
  obtain ⟨hi, htab⟩ := Lib.deBruijn64_at _ hk
  have hcell := hT _ (by simpa using hi)
  rw [dbTab_eq _ (by simpa using hi), htab] at hcell
  exact tz_core x _ _ w (by simp; omega) (tz_key x _ hx hx0 hlow) hi hk hcell
def firstN (b : Nat) : Int := match listN b with | [] => -1 | s :: _ => (s : Int)
theorem filter_least (p : Nat → Bool) (c : Nat) : ∀ l : List Nat, l.Pairwise (· < ·) → c ∈ l → p c = true → (∀ x ∈ l, x < c → p x = false) → l.filter p = c :: l.filter fun x => p x && decide (x ≠ c)
  | [], _, h, _, _ => by cases h
  | a :: l, hp, hc, h1, h2 => by
    rw [List.pairwise_cons] at hp
    by_cases e : a = c
    · subst e
      have : ∀ x ∈ l, p x = (p x && decide (x ≠ a)) := fun x hx => by
        have h := hp.1 x hx
        have hne : x ≠ a := by omega
        simp [hne]
      rw [List.filter_cons_of_pos h1, List.filter_cons_of_neg (by simp), List.filter_congr this]
    · have hcl : c ∈ l := by simpa [Ne.symm e] using hc
      have ha : p a = false := h2 a (by simp) (hp.1 c hcl)
      rw [List.filter_cons_of_neg (by simp [ha]), List.filter_cons_of_neg (by simp [ha])]
      exact filter_least p c l hp.2 hcl h1 (fun x hx => h2 x (by simp [hx]))
/-- The set without its least square. -/
def restN (b : Nat) : Nat := b &&& (b - 1)
theorem restN_lt {b : Nat} (hb : b < W64) : restN b < W64 := Nat.and_lt_two_pow (n := 64) _ (Nat.lt_of_le_of_lt (Nat.sub_le _ _) hb)
theorem low_bits (c m i : Nat) : (2 ^ c * (2 * m + 1)).testBit i = (decide (c ≤ i) && (decide (i = c) || m.testBit (i - c - 1))) := by
  rw [Nat.mul_comm, ← Nat.shiftLeft_eq, Nat.testBit_shiftLeft]
  by_cases h : c ≤ i
  · by_cases h2 : i = c
    · subst h2; simp
    · obtain ⟨j, rfl⟩ : ∃ j, i = c + 1 + j := ⟨i - c - 1, by omega⟩
      have e : c + 1 + j - c = j + 1 := by omega
      have e2 : (2 * m + 1) / 2 = m := by omega
      rw [e, Nat.testBit_succ, e2]; simp [h2]
  · simp [h]
theorem low_pred (c m i : Nat) : (2 ^ c * (2 * m + 1) - 1).testBit i = if i < c then true else decide (i ≠ c) && m.testBit (i - c - 1) := by
  have hp : 0 < 2 ^ c := Nat.two_pow_pos c
  have e : 2 ^ c * (2 * m + 1) - 1 = 2 ^ c * (2 * m) + (2 ^ c - 1) := by rw [Nat.mul_add]; omega
  rw [e, Nat.testBit_two_pow_mul_add _ (by omega)]
  split
  · rename_i h; rw [Nat.testBit_two_pow_sub_one, decide_eq_true h]
  · rename_i h
    by_cases h2 : i = c
    · subst h2; simp
    · obtain ⟨j, rfl⟩ : ∃ j, i = c + 1 + j := ⟨i - c - 1, by omega⟩
      have e : c + 1 + j - c = j + 1 := by omega
      have e2 : 2 * m / 2 = m := by omega
      rw [e, Nat.testBit_succ, e2]; simp [h2]
theorem ctz_spec (b : Nat) (hb : b < W64) (h0 : b ≠ 0) : ∃ m, b = 2 ^ Lib.ctz 64 b * (2 * m + 1) ∧ Lib.ctz 64 b < 64 := by
  obtain ⟨m, h1, h2⟩ := Lib.ctzFrom_spec 64 b (by omega) hb
  have e : Lib.ctz 64 b = Lib.ctzFrom 64 b := by simp [Lib.ctz, h0]
  rw [e]; exact ⟨m, h1, h2⟩
theorem listN_rest (b : Nat) (hb : b < W64) (h0 : b ≠ 0) : listN b = Lib.ctz 64 b :: listN (restN b) := by
  obtain ⟨m, h1, h2⟩ := ctz_spec b hb h0
  generalize Lib.ctz 64 b = c at *
  have t1 : ∀ i, b.testBit i = (decide (c ≤ i) && (decide (i = c) || m.testBit (i - c - 1))) := fun i => by rw [h1, low_bits]
  have t3 : ∀ i, (b - 1).testBit i = if i < c then true else decide (i ≠ c) && m.testBit (i - c - 1) := fun i => by rw [h1]; exact low_pred c m i
  have t2 : ∀ i, (restN b).testBit i = (b.testBit i && decide (i ≠ c)) := fun i => by
    rw [restN, Nat.testBit_and]
    rw [t3, t1]
    by_cases a1 : c ≤ i
    · by_cases a2 : i = c
      · subst a2; simp
      · have : ¬ i < c := by omega
        simp [a1, a2, this]
    · simp [a1]
  have := filter_least (fun x => b.testBit x) c (List.range 64) List.pairwise_lt_range (by simpa using h2) (by simp [t1]) (fun x _ hx => by simp [t1]; omega)
  unfold listN listTo
  rw [this]
  congr 1
  apply List.filter_congr
  intro x _
  rw [t2]
theorem listN_zero : listN 0 = [] := by decide
theorem firstN_zero : firstN 0 = -1 := by simp [firstN, listN_zero]
theorem firstN_ctz (b : Nat) (hb : b < W64) (h0 : b ≠ 0) : firstN b = (Lib.ctz 64 b : Nat) := by rw [firstN, listN_rest b hb h0]
theorem first_any (b : Nat) (w : World) (hb : b < W64) (hT : TabDb w) :
    Calls Tryd.prog 41 #[.int .u64 (b : Int)] w fun e w' => e = .returned (.int .i64 (firstN b)) ∧ w = w' := by
  have HT := Lib.hid hT
  by_cases h0 : b = 0
  · subst h0
    clear hb hT
    go_enter Tryd.func41, Tryd.ntmps41
    go_wp2
    go_ret
    exact ⟨ret_int firstN_zero.symm, rfl⟩
  · have HF := Lib.hid (firstN_ctz b hb h0)
    have H0 := Lib.hid h0
    have HB := Lib.hid hb
    have hne : ((b : Int) == 0) = false := by simp; omega
    clear hb hT h0
    go_enter Tryd.func41, Tryd.ntmps41
    go_wp2_with (go_at_call 48; refine (tz_any _ _ HB.out H0.out HT.out).mono ?_; rintro e w' ⟨rfl, rfl⟩)
    go_ret
    exact ⟨ret_int HF.out.symm, rfl⟩

/-! Steps. -/
end Go.Proofs.YtdjnniohoicppaaDoor
