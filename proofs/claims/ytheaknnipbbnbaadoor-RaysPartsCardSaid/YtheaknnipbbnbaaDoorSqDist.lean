/-
  Contracts of the program's widest and Distance (layer 2).
-/
import Derived.Test.YtheaknnipbbnbaaDoorSq
namespace Go.Proofs.YtheaknnipbbnbaaDoor
open Go.RowKit

def max3Z (x y z : Int) : Int := if z > (if y > x then y else x) then z else (if y > x then y else x)
theorem run_max3 {P : Program} (w : World) (x y z : Int) : (Builtin.max_ #[3, 3, 3] 3 #[.int .i64 x, .int .i64 y, .int .i64 z]).run P w = .ok (.int .i64 (max3Z x y z)) w := by
  simp [Builtin.max_, Builtin.max2, max3Z]
def wideZ (p q r s : Int) : Int := max3Z (max3Z 0 (p - q) (q - p)) (r - s) (s - r)
def I64L (n : Int) (w : World) (e : Ending) (w' : World) : Prop := e = .returned (.int .i64 n) ∧ Below w.heap.size w w'
def Wd (p q r s : Int) (w : World) (g i : Value) (wr : World) : Prop := Below w.heap.size w wr ∧ ((i = .int .i64 0 ∧ g = .int .i64 0) ∨ (i = .int .i64 1 ∧ g = .int .i64 (max3Z 0 (p - q) (q - p))) ∨ (i = .int .i64 2 ∧ g = .int .i64 (wideZ p q r s)))
set_option maxHeartbeats 1000000 in
theorem widest_any (B : Nat) (p q r s : Int) (w : World) (hp : -1 ≤ p ∧ p ≤ 7) (hq : -1 ≤ q ∧ q ≤ 7) (hr : -1 ≤ r ∧ r ≤ 7) (hs : -1 ≤ s ∧ s ≤ 7)
    (hB : B < w.heap.size) (c0 : w.cell? ⟨B, 0, none⟩ = some (.int .i64 p)) (c1 : w.cell? ⟨B, 1, none⟩ = some (.int .i64 q)) (c2 : w.cell? ⟨B, 2, none⟩ = some (.int .i64 r)) (c3 : w.cell? ⟨B, 3, none⟩ = some (.int .i64 s)) :
    Calls Tryd.prog 50 #[.slice (some ⟨B, 0, none⟩) 2 2] w (I64L (wideZ p q r s) w) := by
  have HB := Lib.hid hB
  have H0 := Lib.hid c0
  have H1 := Lib.hid c1
  have H2 := Lib.hid c2
  have H3 := Lib.hid c3
  have hmx := @run_max3 Tryd.prog
  clear c0 c1 c2 c3 hB
  go_enter Tryd.func50, Tryd.ntmps50
  go_wp2
  go_loopw [3, 8] (fun g i wr => Wd p q r s w g i wr) (fun _ i _ => 2 - (intOf i).toNat)
  case atStart => exact ⟨Below.refl _ _, .inl ⟨rfl, rfl⟩⟩
  case round =>
    obtain ⟨hb, h⟩ := hrel
    rcases h with ⟨rfl, rfl⟩ | ⟨rfl, rfl⟩ | ⟨rfl, rfl⟩
    · have c0 := (hb.cell (p := ⟨B, 0, none⟩) HB.out).trans H0.out
      have c1 := (hb.cell (p := ⟨B, 1, none⟩) HB.out).trans H1.out
      have HBl := Lib.hid hb
      clear hb
      go_wp2
      go_roundw
      case rel => exact ⟨HBl.out.alloc HBl.out.size _, .inr (.inl ⟨rfl, rfl⟩)⟩
      case measure => simp [intOf]
    · have c2 := (hb.cell (p := ⟨B, 2, none⟩) HB.out).trans H2.out
      have c3 := (hb.cell (p := ⟨B, 3, none⟩) HB.out).trans H3.out
      have HBl := Lib.hid hb
      clear hb
      go_wp2
      go_roundw
      case rel => exact ⟨HBl.out.alloc HBl.out.size _, .inr (.inr ⟨rfl, rfl⟩)⟩
      case measure => simp [intOf]
    · have HBl := Lib.hid hb
      clear hb
      go_wp2
      go_ret
      exact ⟨rfl, HBl.out⟩

theorem wide_dist {a b : Int} (h : sqB a = true) (g : sqB b = true) : wideZ (fileZ a) (fileZ b) (rankZ a) (rankZ b) = distZ a b := by
  rw [fileZ_yes h, fileZ_yes g, rankZ_yes h, rankZ_yes g, distZ_yes (by rw [h, g]; rfl)]
  unfold wideZ max3Z gapZ
  split <;> split <;> split <;> split <;> split <;> omega
set_option maxHeartbeats 1000000 in
theorem dist_any (a b : Int) (w : World) : Calls Tryd.prog 26 #[.int .i64 a, .int .i64 b] w (I64L (distZ a b) w) := by
  cases ha : sqB a
  · have HS := Lib.hid (distZ_no (a := a) (b := b) (by rw [ha]; rfl))
    go_enter Tryd.func26, Tryd.ntmps26
    go_wp2_with (go_at_call 49; refine (isSq_any _ _).mono ?_; rintro e w' ⟨rfl, rfl⟩)
    go_ret
    exact ⟨sq_int HS.out.symm, Below.refl _ _⟩
  · cases hb : sqB b
    · have HS := Lib.hid (distZ_no (a := a) (b := b) (by rw [hb]; simp))
      go_enter Tryd.func26, Tryd.ntmps26
      go_wp2_with (go_at_call 49; refine (isSq_any _ _).mono ?_; rintro e w' ⟨rfl, rfl⟩)
      go_ret
      exact ⟨sq_int HS.out.symm, Below.refl _ _⟩
    · have HS := Lib.hid (wide_dist ha hb)
      have FA := Lib.hid (fileZ_rng a)
      have FB := Lib.hid (fileZ_rng b)
      have RA := Lib.hid (rankZ_rng a)
      have RB := Lib.hid (rankZ_rng b)
      go_enter Tryd.func26, Tryd.ntmps26
      go_wp2_with (first | (go_at_call 49; refine (isSq_any _ _).mono ?_; rintro e w' ⟨rfl, rfl⟩) | (go_at_call 51; refine (file_any _ _).mono ?_; rintro e w' ⟨rfl, rfl⟩) | (go_at_call 52; refine (rank_any _ _).mono ?_; rintro e w' ⟨rfl, rfl⟩))
      refine (widest_any w.heap.size (fileZ a) (fileZ b) (rankZ a) (rankZ b) _ FA.out FB.out RA.out RB.out (by simp) (by simp) (by simp) (by simp) (by simp)).mono ?_
      rintro e w1 ⟨rfl, hb1⟩
      have HB1 := Lib.hid hb1
      clear hb1
      go_wp2
      go_ret
      exact ⟨sq_int HS.out, ((Below.refl w.heap.size w).alloc (Nat.le_refl _) _).trans (HB1.out.mono (by simp))⟩
end Go.Proofs.YtheaknnipbbnbaaDoor
