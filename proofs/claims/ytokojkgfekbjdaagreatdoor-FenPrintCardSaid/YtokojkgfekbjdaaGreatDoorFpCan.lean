/-
  Contracts of the program's tests of a position that can be written, first part (layer 10).
-/
import Derived.Test.YtokojkgfekbjdaaGreatDoorFnWrit
import Derived.Test.YtokojkgfekbjdaaGreatDoorArr
import Derived.Test.YtokojkgfekbjdaaGreatDoorFnBaseB
namespace Go.Proofs.YtokojkgfekbjdaaGreatDoor
open Go.RowKit
set_option linter.unusedVariables false
set_option linter.unusedSimpArgs false

theorem isPassing_any (s : Int) (w : World) : Calls Tryz.prog 51 #[.int .i8 s] w (Bo (decide (-1 ≤ s) && decide (s < 64)) w) := by
  cases g0 : decide (-1 ≤ s)
  · go_enter Tryz.func51, Tryz.ntmps51
    go_wp2
    go_ret
    exact ⟨pc_bool rfl, rfl⟩
  · have HS := Lib.hid (show True from trivial)
    cases g1 : decide (s < 64)
    · go_enter Tryz.func51, Tryz.ntmps51
      go_wp2
      go_ret
      exact ⟨pc_bool rfl, rfl⟩
    · go_enter Tryz.func51, Tryz.ntmps51
      go_wp2
      go_ret
      exact ⟨pc_bool rfl, rfl⟩
theorem isClock_any (s : Int) (w : World) : Calls Tryz.prog 52 #[.int .i64 s] w (Bo (decide (0 ≤ s) && decide (s ≤ 10000)) w) := by
  cases g0 : decide (0 ≤ s)
  · go_enter Tryz.func52, Tryz.ntmps52
    go_wp2
    go_ret
    exact ⟨pc_bool rfl, rfl⟩
  · cases g1 : decide (s ≤ 10000)
    · go_enter Tryz.func52, Tryz.ntmps52
      go_wp2
      go_ret
      exact ⟨pc_bool rfl, rfl⟩
    · go_enter Tryz.func52, Tryz.ntmps52
      go_wp2
      go_ret
      exact ⟨pc_bool rfl, rfl⟩
theorem isFile_any (s : Int) (w : World) : Calls Tryz.prog 126 #[.int .i64 s] w (Bo (decide (0 ≤ s) && decide (s < 8)) w) := by
  cases g0 : decide (0 ≤ s)
  · go_enter Tryz.func126, Tryz.ntmps126
    go_wp2
    go_ret
    exact ⟨pc_bool rfl, rfl⟩
  · cases g1 : decide (s < 8)
    · go_enter Tryz.func126, Tryz.ntmps126
      go_wp2
      go_ret
      exact ⟨pc_bool rfl, rfl⟩
    · go_enter Tryz.func126, Tryz.ntmps126
      go_wp2
      go_ret
      exact ⟨pc_bool rfl, rfl⟩
def I64E (n : Int) (w : World) (e : Ending) (w' : World) : Prop := e = .returned (.int .i64 n) ∧ w = w'
theorem home_any (c : Int) (w : World) (hc : c = 0 ∨ c = 1) : Calls Tryz.prog 128 #[.int .u8 c] w (I64E (7 * c) w) := by
  rcases hc with rfl | rfl
  · go_enter Tryz.func128, Tryz.ntmps128
    go_wp2
    go_ret
    exact ⟨rfl, rfl⟩
  · go_enter Tryz.func128, Tryz.ntmps128
    go_wp2
    go_ret
    exact ⟨rfl, rfl⟩
theorem fp_arr (p : Nat → Int) (off n : Nat) (K : IntKind) (hk : ∀ j, j < n → kAt (off + j) = K) : (partL p off n).toArray = arrA n K (fun j => p (off + j)) := by
  apply Array.ext_getElem?
  intro i
  by_cases hi : i < n
  · rw [arrA_get _ _ _ _ hi]; simp [partL, hi, hk i hi]
  · rw [Array.getElem?_eq_none (by rw [List.size_toArray, partL_len]; omega), Array.getElem?_eq_none (by rw [arrA_size]; omega)]
/-- The array of a position's field, read at once. -/
theorem step_part {ops : Array Oper} {rest : List Oper} {op : Oper} {a : Act} {w : World} {Q : Exit → Act → World → Prop} (hw : Region.wanted op (yielded ops a.tmps) = true) (ty : TypeId) (x : Operand) (ho : op.op = .load ty x) (b o n : Nat) (K : IntKind) (hx : a.eval x = .pointer (some ⟨b, o, none⟩)) (p : Nat → Int) (hr : Row w b p) (hn : o + n ≤ 88) (hk : ∀ j, j < n → kAt (o + j) = K)
    (d : TypeDesc) (hu : Tryz.prog.underlying ty = some d) (hd : d.isRow = true) (hi : (Tryz.prog.info? ty).map (·.size) = some n)
    (h : wpList Tryz.prog ops Q rest (a.put op.dst (.agg (arrA n K fun j => p (o + j)))) w) : wpList Tryz.prog ops Q (op :: rest) a w :=
  step_read hw ty x ho b o n hx p hr hn d hu hd hi (by rw [fp_arr p o n K hk]; exact h)
theorem kat_bd : ∀ j, j < 64 → kAt (1 + j) = .u8 := fun j hj => kAt_board (Nat.zero_le _) hj
theorem shr_bitF {n a : Nat} (hn : n < W64) : (bits .and .u64 ((n : Int) / 2 ^ a) 1 == 1) = n.testBit a := by
  rw [show ((n : Int) / 2 ^ a) = ((n / 2 ^ a : Nat) : Int) by simp, show (1 : Int) = ((1 : Nat) : Int) from rfl, and_nat (Nat.lt_of_le_of_lt (Nat.div_le_self _ _) hn) (by decide)]
  rw [Nat.and_one_is_mod, Nat.testBit_eq_decide_div_mod_eq]
  rw [Bool.eq_iff_iff, beq_iff_eq, decide_eq_true_eq]; omega
theorem firstF_at {n j : Nat} (hj : n.testBit j = true) (hj64 : j < 64) (h : ∀ i, i < j → n.testBit i = false) : firstN n = (j : Int) := by
  have hm : j ∈ listN n := mem_listN.2 ⟨hj64, hj⟩
  unfold firstN
  cases hl : listN n with
  | nil => rw [hl] at hm; cases hm
  | cons a t =>
    have ha := (mem_listN.1 (show a ∈ listN n by rw [hl]; simp)).2
    have hs := listN_sorted n
    rw [hl] at hs hm
    show (a : Int) = j
    rcases List.mem_cons.1 hm with rfl | hm
    · rfl
    · have h1 := (List.pairwise_cons.1 hs).1 j hm
      rw [h a h1] at ha; cases ha
theorem firstF_none {n : Nat} (h : ∀ i, i < 64 → n.testBit i = false) : firstN n = -1 := by
  unfold firstN
  cases hl : listN n with
  | nil => rfl
  | cons a t =>
    have ha := mem_listN.1 (show a ∈ listN n by rw [hl]; simp)
    rw [h a ha.1] at ha; cases ha.2
theorem ofB_king {c x : Int} (hc : c = 0 ∨ c = 1) : ofB c 6 x = (x == 8 * c + 6) := by
  rw [Bool.eq_iff_iff, beq_iff_eq]
  unfold ofB
  constructor
  · intro h
    rw [Bool.and_eq_true, Bool.and_eq_true, Bool.or_eq_true, beq_iff_eq, beq_iff_eq, beq_iff_eq] at h
    obtain ⟨h1, h2, h3⟩ := h
    have h3 := h3.resolve_left (by decide)
    rw [colZ_yes h1] at h2
    rw [kndZ_yes h1] at h3
    omega
  · rintro rfl
    rcases hc with rfl | rfl <;> decide +kernel
theorem isPromoted_any (p : Nat → Int) (s : Nat) (w : World) (hs : s < 64) (hm : 0 ≤ p 65 ∧ (p 65).toNat < W64) : Calls Tryz.prog 92 #[.agg (posA p), .int .i64 (s : Int)] w (BoL (hasN (p 65).toNat (s : Int)) w) := by
  obtain ⟨m, hmm⟩ : ∃ m : Nat, p 65 = (m : Int) := ⟨(p 65).toNat, (Int.toNat_of_nonneg hm.1).symm⟩
  have HM := Lib.hid (show m < W64 by have := hm.2; rw [hmm] at this; exact this)
  have HB := Lib.hid (show (bits .and .u64 ((m : Int) / 2 ^ s) 1 == 1) = hasN (p 65).toNat (s : Int) by rw [shr_bitF HM.out, hasN_nat _ _ hs, hmm]; rfl)
  have s0 : (0 : Int) ≤ (s : Int) := by omega
  have s64 : (s : Int) < 64 := by omega
  have g0 : decide ((s : Int) < 0) = false := decide_eq_false (by omega)
  have HK := Lib.hid (fun (W : World) (b : Nat) (R : Row W b p) => show W.cell? ⟨b, 65, none⟩ = some (.int .u64 (m : Int)) by rw [R.cell 65 (by decide), hmm]; rfl)
  obtain ⟨r, hr⟩ : ∃ r, hasN (p 65).toNat (s : Int) = r := ⟨_, rfl⟩
  rw [hr] at HB
  rw [hr]
  clear hr hm hmm
  go_enter Tryz.func92, Tryz.ntmps92
  go_wp2_with (refine step_box rfl _ rfl p rfl ?_; intro b1 w1 N R; have HN := Lib.hid N.below; have hc := HK.out _ _ R; clear N R)
  go_ret
  exact ⟨pc_bool (by simpa using HB.out), HN.out⟩
theorem no_beq {a b : Int} (h : (a == b) = false) : a ≠ b := by simpa using h
theorem yes_beq {a b : Int} (h : (a == b) = true) : a = b := by simpa using h
set_option maxRecDepth 100000 in
set_option maxHeartbeats 1000000 in
theorem firstKing_any (p : Nat → Int) (c : Int) (w : World) (hp : BdR p) (hc : c = 0 ∨ c = 1) : Calls Tryz.prog 125 #[.agg (posA p), .int .u8 c] w (IntL (kinF p c) w) := by
  have HP := Lib.hid hp
  have HC := Lib.hid hc
  obtain ⟨q, hq⟩ : ∃ q, mkZ c 6 = q := ⟨_, rfl⟩
  have HQ := Lib.hid (show q = 8 * c + 6 by rw [← hq]; rcases hc with rfl | rfl <;> decide)
  have HAt := Lib.hid (fun (j : Nat) (hj : j < 64) (h1 : p (1 + j) = q) (h : ∀ i, i < j → p (1 + i) ≠ q) => show kinF p c = (j : Int) from firstF_at (by rw [ofN_testBit _ _ _ _ hj, ofB_king hc, h1, HQ.out]; simp) hj (fun i hi => by rw [ofN_testBit _ _ _ _ (by omega), ofB_king hc, ← HQ.out]; simpa using h i hi))
  have HNo := Lib.hid (fun (h : ∀ i, i < 64 → p (1 + i) ≠ q) => show kinF p c = -1 from firstF_none (fun i hi => by rw [ofN_testBit _ _ _ _ hi, ofB_king hc, ← HQ.out]; simpa using h i hi))
  have HMk := Lib.hid hq
  have HC0 := Lib.hid (show 0 ≤ c by omega)
  clear hq hc hp
  go_enter Tryz.func125, Tryz.ntmps125
  go_wp2_with (first
    | (refine step_box rfl _ rfl p rfl ?_; intro b1 w1 N R; have HB := Lib.hid N.below; have HR := Lib.hid R; clear N R)
    | (go_at_call 50; refine (mk_any _ _ _ HC0.out (by decide)).mono ?_; rintro e w' ⟨rfl, rfl⟩; rw [HMk.out])
    | (refine step_part rfl 22 _ rfl b1 1 64 .u8 rfl p HR.out (by decide) kat_bd _ Tryz.underlying22 rfl (by kernel_rfl) ?_))
  go_loopw [12] (fun i wr => ∃ s : Nat, s ≤ 64 ∧ i = .int .i64 s ∧ (∀ j, j < s → p (1 + j) ≠ q) ∧ wr = w1) (fun i _ => 64 - (intOf i).toNat)
  case atStart => exact ⟨0, by omega, rfl, fun j hj => by omega, rfl⟩
  case round =>
    obtain ⟨s, hs64, rfl, hall, rfl⟩ := hrel
    have HAl := Lib.hid hall
    clear hall
    by_cases hs : s < 64
    · have hls : (s : Int) < 64 := by omega
      have hs0 : (0 : Int) ≤ (s : Int) := by omega
      have HS := Lib.hid hs
      obtain ⟨x, hx⟩ : ∃ x, p (1 + s) = x := ⟨_, rfl⟩
      have HX := Lib.hid hx
      clear hx
      cases hz : (x == q)
      · go_wp2_with (refine arr_index rfl 22 5 _ _ rfl 64 .u8 _ rfl s rfl HS.out Tryz.underlying22 Tryz.underlying5 size5 ?_; dsimp only; rw [HX.out])
        go_roundw
        case rel => exact ⟨s + 1, by have := HS.out; omega, by go_num, fun j hj => if e : j = s then by subst e; rw [HX.out]; exact no_beq hz else HAl.out j (by omega), trivial⟩
        case measure => simp [intOf]; have := HS.out; omega
      · go_wp2_with (refine arr_index rfl 22 5 _ _ rfl 64 .u8 _ rfl s rfl HS.out Tryz.underlying22 Tryz.underlying5 size5 ?_; dsimp only; rw [HX.out])
        go_ret
        exact ⟨by rw [HAt.out s HS.out (by rw [HX.out]; exact yes_beq hz) HAl.out]; rfl, HB.out⟩
    · obtain rfl : s = 64 := by omega
      go_wp2_with fail
      go_ret
      exact ⟨by rw [HNo.out HAl.out]; rfl, HB.out⟩
end Go.Proofs.YtokojkgfekbjdaaGreatDoor
