/-
  Contracts of the program's and the document's At.
-/
import Derived.Test.YtgodoipmnenohaaDoorPos
import Derived.Test.YtgodoipmnenohaaDoorPcRefB
import Derived.Test.YtgodoipmnenohaaDoorSquareRef
namespace Go.Proofs.YtgodoipmnenohaaDoor
open Go.RowKit

theorem isq_any (s : Int) (w : World) : Calls Tryd.prog 37 #[.int .i64 s] w (Bo (sq s) w) := by
  by_cases h0 : 0 ≤ s
  · have g0 : decide (0 ≤ s) = true := decide_eq_true h0
    have HS := Lib.hid (show decide (s < 64) = sq s by simp [sq, h0])
    go_enter Tryd.func37, Tryd.ntmps37
    go_wp2
    go_ret
    exact ⟨pc_bool HS.out, rfl⟩
  · have g0 : decide (0 ≤ s) = false := decide_eq_false h0
    have HS := Lib.hid (sq_false.2 (.inl (by omega) : s < 0 ∨ 64 ≤ s))
    go_enter Tryd.func37, Tryd.ntmps37
    go_wp2
    go_ret
    exact ⟨pc_bool HS.out.symm, rfl⟩

/-- What stands on the square. -/
def atZ (p : Nat → Int) (s : Int) : Int := if sq s = true then (if pcB (p (1 + s.toNat)) = true then p (1 + s.toNat) else 0) else 0

def BdR (p : Nat → Int) : Prop := ∀ i, i < 64 → 0 ≤ p (1 + i) ∧ p (1 + i) ≤ 255
theorem atZ_no {p : Nat → Int} {s : Int} (h : sq s = false) : atZ p s = 0 := by unfold atZ; rw [if_neg (by rw [h]; simp)]
theorem atZ_off {p : Nat → Int} {n : Nat} (h : sq (n : Int) = true) (h1 : pcB (p (1 + n)) = false) : atZ p (n : Int) = 0 := by
  unfold atZ; rw [if_pos h, Int.toNat_natCast, if_neg (by rw [h1]; simp)]
theorem atZ_yes {p : Nat → Int} {n : Nat} (h : sq (n : Int) = true) (h1 : pcB (p (1 + n)) = true) : atZ p (n : Int) = p (1 + n) := by
  unfold atZ; rw [if_pos h, Int.toNat_natCast, if_pos h1]
theorem box_below (w : World) (o : Obj) : Below w.heap.size w (w.alloc o) := (Below.refl _ _).alloc (Nat.le_refl _) o

theorem at_any (p : Nat → Int) (s : Int) (w : World) (hp : BdR p) : Calls Tryd.prog 11 #[.agg (posA p), .int .i64 s] w (U8L (atZ p s) w) := by
  cases h0 : sq s
  · have HS := Lib.hid (atZ_no (p := p) h0)
    clear hp
    go_enter Tryd.func11, Tryd.ntmps11
    go_wp2_with fail
    refine (isq_any _ _).mono ?_; rintro e w' ⟨rfl, rfl⟩
    go_wp2_with fail
    go_ret
    exact ⟨pc_int HS.out.symm, box_below _ _⟩
  · obtain ⟨n, rfl⟩ := Int.eq_ofNat_of_zero_le (sq_true.1 h0).1
    have hn : n < 64 := by have := (sq_true.1 h0).2; omega
    obtain ⟨r0, r1⟩ := hp n hn
    have hc := posA_get p (1 + n) (by omega)
    rw [kAt_board (by omega) hn] at hc
    have HN := Lib.hid (atZ_off (p := p) h0)
    have HY := Lib.hid (atZ_yes (p := p) h0)
    obtain ⟨x, HX⟩ : ∃ x, Hid (p (1 + n) = x) := ⟨_, Lib.hid rfl⟩
    rw [HX.out] at hc r0 r1
    clear hp
    cases h1 : pcB x
    · go_enter Tryd.func11, Tryd.ntmps11
      go_wp2_with fail
      refine (isq_any _ _).mono ?_; rintro e w' ⟨rfl, rfl⟩
      go_wp2_with fail
      refine (is_any _ _ r0 r1).mono ?_; rintro e w' ⟨rfl, rfl⟩
      go_wp2_with fail
      go_ret
      exact ⟨pc_int (HN.out (by rw [HX.out]; exact h1)).symm, box_below _ _⟩
    · go_enter Tryd.func11, Tryd.ntmps11
      go_wp2_with fail
      refine (isq_any _ _).mono ?_; rintro e w' ⟨rfl, rfl⟩
      go_wp2_with fail
      refine (is_any _ _ r0 r1).mono ?_; rintro e w' ⟨rfl, rfl⟩
      go_wp2_with fail
      go_ret
      exact ⟨pc_int (by rw [HY.out (by rw [HX.out]; exact h1), HX.out]), box_below _ _⟩
theorem rat_any (p : Nat → Int) (s : Int) (w : World) (hp : BdR p) : Calls Tryd.prog 12 #[.agg (posA p), .int .i64 s] w (U8L (atZ p s) w) := by
  cases h0 : sq s
  · have HS := Lib.hid (atZ_no (p := p) h0)
    clear hp
    by_cases h2 : s < 0
    · have g0 : decide (s < 0) = true := decide_eq_true h2
      go_enter Tryd.func12, Tryd.ntmps12
      go_wp2_with fail
      go_ret
      exact ⟨pc_int HS.out.symm, box_below _ _⟩
    · have g0 : decide (s < 0) = false := decide_eq_false h2
      have g1 : decide (63 < s) = true := decide_eq_true (by have := sq_false.1 h0; omega)
      go_enter Tryd.func12, Tryd.ntmps12
      go_wp2_with fail
      go_ret
      exact ⟨pc_int HS.out.symm, box_below _ _⟩
  · obtain ⟨n, rfl⟩ := Int.eq_ofNat_of_zero_le (sq_true.1 h0).1
    have hn : n < 64 := by have := (sq_true.1 h0).2; omega
    obtain ⟨r0, r1⟩ := hp n hn
    have hc := posA_get p (1 + n) (by omega)
    rw [kAt_board (by omega) hn] at hc
    have HN := Lib.hid (atZ_off (p := p) h0)
    have HY := Lib.hid (atZ_yes (p := p) h0)
    obtain ⟨x, HX⟩ : ∃ x, Hid (p (1 + n) = x) := ⟨_, Lib.hid rfl⟩
    rw [HX.out] at hc r0 r1
    clear hp h0
    have l0 : (n : Int) ≤ 63 := by omega
    have g0 : decide ((n : Int) < 0) = false := decide_eq_false (by omega)
    have g1 : decide (63 < (n : Int)) = false := decide_eq_false (by omega)
    cases h1 : pcB x
    · go_enter Tryd.func12, Tryd.ntmps12
      go_wp2_with fail
      refine (ris_any _ _).mono ?_; rintro e w1 ⟨rfl, hb⟩
      have HB := Lib.hid hb; clear hb
      go_wp2_with fail
      go_ret
      exact ⟨pc_int (HN.out (by rw [HX.out]; exact h1)).symm, (box_below _ _).trans (HB.out.mono (by simp))⟩
    · go_enter Tryd.func12, Tryd.ntmps12
      go_wp2_with fail
      refine (ris_any _ _).mono ?_; rintro e w1 ⟨rfl, hb⟩
      have HB := Lib.hid hb
      have hk : w1.cell? ⟨w.heap.size, 1 + n, none⟩ = some (.int .u8 x) := by rw [hb.cell (by simp)]; simp [hc]
      clear hb
      go_wp2_with fail
      go_ret
      exact ⟨pc_int (by rw [HY.out (by rw [HX.out]; exact h1), HX.out]), (box_below _ _).trans (HB.out.mono (by simp))⟩
end Go.Proofs.YtgodoipmnenohaaDoor
