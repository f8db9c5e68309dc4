/-
  Contracts of the program's layer 3, second part: the closure that walks, heading, Ray, Between, Line.
-/
import Derived.Test.YtlhepfighelijaaDoorRays
namespace Go.Proofs.YtlhepfighelijaaDoor
open Go.RowKit

/-- How far a walk may still go: none from no square. -/
def farN (b : Nat) (d : Int) : Nat := if b = 0 then 0 else if 0 < leadD d then 64 - b.log2 else 1 + b.log2
theorem far_less {t d : Int} (h : sq t = true) : farN (onlyN (stepN t d)) d < farN (onlyN t) d := by
  obtain ⟨n, hn, rfl⟩ := nat_of_sq h
  have e : onlyN (n : Int) = 2 ^ n := only_nat hn
  have hp : (2 : Nat) ^ n ≠ 0 := by have := Nat.two_pow_pos n; omega
  have h0 : 0 < farN (2 ^ n) d := by
    unfold farN; rw [if_neg hp]; split
    · rw [Nat.log2_two_pow]; omega
    · omega
  by_cases hs : sq (stepN (n : Int) d) = true
  · obtain ⟨m, hm, em⟩ := nat_of_sq hs
    have hd : dirB d = true := by
      cases e : dirB d
      · rw [stepN_out (by simp [e])] at em; omega
      · rfl
    have hd' := dirB_true.1 hd
    have es := (step_iff (s := (n : Int)) (d := d) (t := (m : Int)) ⟨by omega, by omega⟩ hd' (by omega)).1 em
    have hl := leadD_cases d hd'
    rw [em, e, only_nat hm]
    have hq : (2 : Nat) ^ m ≠ 0 := by have := Nat.two_pow_pos m; omega
    unfold farN
    rw [if_neg hp, if_neg hq, Nat.log2_two_pow, Nat.log2_two_pow]
    split <;> omega
  · rw [only_no (by simpa using hs), e]
    exact h0
theorem put_or (b : Nat) (s : Int) : b ||| onlyN s = putN b s := rfl
theorem only_ne {s : Int} (h : sq s = true) : (((onlyN s : Nat) : Int) != 0) = true := by
  have : onlyN s ≠ 0 := fun e => by rw [onlyN_zero, h] at e; cases e
  simp; omega

def walkF (B : Nat) : Value := .func (.func 82) #[] #[.pointer (some ⟨B, 0, none⟩)]
/-- The variable that the walk has kept: the square where it starts. -/
def Start (B : Nat) (s : Int) (w : World) : Prop := w.cell? ⟨B, 0, none⟩ = some (.int .u64 (onlyN s : Nat))
theorem Start.next {B : Nat} {s : Int} {A C : World} (h : Start B s A) (hb : Below A.heap.size A C) : Start B s C :=
  (hb.cell (p := ⟨B, 0, none⟩) (World.block_lt_of_cell? A _ h)).trans h

theorem walk_any (B : Nat) (s d : Int) (w : World) (hT : TabLead w) (hc : w.cell? ⟨B, 0, none⟩ = some (.int .u64 (onlyN s : Nat))) :
    Calls Tryd.prog 82 #[.int .i64 d, .pointer (some ⟨B, 0, none⟩)] w (U64S (rayN s d) w) := by
  have HT := Lib.hid hT
  have HO := Lib.hid (onlyN_lt s)
  have H1 := Lib.hid (shift_only s d)
  clear hT
  go_enter Tryd.func82, Tryd.ntmps82
  go_wp2_with (go_at_call 72; refine (shift_any _ _ _ HO.out HT.out).mono ?_; rintro e w' ⟨rfl, rfl⟩)
  go_loop [4, 5] (fun x i => ∃ k : Nat, k ≤ 7 ∧ x = .int .u64 (passN s d k : Nat) ∧ i = .int .u64 (onlyN (goN s d (k + 1)) : Nat)) (fun _ i => farN (intOf i).toNat d)
  case atStart => exact ⟨0, by omega, rfl, by rw [H1.out]; rfl⟩
  case round =>
    obtain ⟨k, hk, rfl, rfl⟩ := hrel
    cases hs : sq (goN s d (k + 1))
    · have HE := Lib.hid (ray_end (by omega) hs)
      have e0 : onlyN (goN s d (k + 1)) = 0 := only_no hs
      rw [e0]
      clear e0 hs
      go_wp2
      go_ret
      exact ⟨ret_int (by rw [HE.out]), rfl⟩
    · have HL := Lib.hid (go_lt hs)
      have HF := Lib.hid (far_less (d := d) hs)
      have HX := Lib.hid (or_nat (passN_lt s d k) (onlyN_lt (goN s d (k + 1))))
      have HG := Lib.hid (onlyN_lt (goN s d (k + 1)))
      have HS := Lib.hid (shift_only (goN s d (k + 1)) d)
      have hne := only_ne hs
      clear hs
      go_wp2_with (go_at_call 72; refine (shift_any _ _ _ HG.out HT.out).mono ?_; rintro e w' ⟨rfl, rfl⟩)
      go_round
      case rel => exact ⟨k + 1, by have := HL.out; omega, by rw [HX.out]; rfl, by rw [HS.out]; rfl⟩
      case measure => simpa [intOf, HS.out] using HF.out

theorem walker_any (s : Int) (w : World) :
    Calls Tryd.prog 80 #[.int .i64 s] w fun e w' => ∃ B, e = .returned (walkF B) ∧ Start B s w' ∧ Below w.heap.size w w' := by
  go_enter Tryd.func80, Tryd.ntmps80
  go_wp2_with (go_at_call 71; refine (ronly_any _ _).mono ?_; rintro e w' ⟨rfl, rfl⟩)
  go_ret
  exact ⟨_, rfl, World.cell?_alloc_new _ _ _ _, below_new _ _⟩

theorem ray_any (s d : Int) (w : World) (hT : TabLead w) : Calls Tryd.prog 78 #[.int .i64 s, .int .i64 d] w (U64L (rayN s d) w) := by
  have HT := Lib.hid hT
  clear hT
  go_enter Tryd.func78, Tryd.ntmps78
  go_wp2_with fail
  refine (walker_any _ _).mono ?_; rintro e w1 ⟨B, rfl, hs, hb⟩
  have HS := Lib.hid hs
  have HB := Lib.hid hb
  have HT1 := Lib.hid (HT.out.next hb)
  clear hs hb
  unfold walkF
  go_wp2_with fail
  refine (walk_any _ _ _ _ HT1.out HS.out).mono ?_; rintro e w' ⟨rfl, rfl⟩
  go_wp2
  go_ret
  exact ⟨rfl, HB.out⟩

/-- The direction in which the walk comes by the square. -/
def HeadPost (a b : Int) (w : World) (e : Ending) (w' : World) : Prop :=
  (∃ d : Nat, d < 8 ∧ hasN (rayN a (d : Int)) b = true ∧ (∀ j : Nat, j < d → hasN (rayN a (j : Int)) b = false) ∧ e = .returned (.tuple #[.int .i64 (d : Int), .bool true]) ∧ w = w') ∨
  ((∀ j : Nat, j < 8 → hasN (rayN a (j : Int)) b = false) ∧ e = .returned (.tuple #[.int .i64 0, .bool false]) ∧ w = w')
end Go.Proofs.YtlhepfighelijaaDoor
