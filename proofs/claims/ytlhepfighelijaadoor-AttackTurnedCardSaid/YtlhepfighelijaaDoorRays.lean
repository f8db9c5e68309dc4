/-
  Contracts of the program's layer 3, first part: only, turned, steps, King, Pawn, Knight.
-/
import Derived.Test.YtlhepfighelijaaDoorLibBits
import Derived.Test.YtlhepfighelijaaDoorRayMath
namespace Go.Proofs.YtlhepfighelijaaDoor
open Go.RowKit

theorem TabLead.later {n₀ : Nat} {A B : World} (h : TabLead A) (h1 : 1 < n₀) (hb : Below n₀ A B) : TabLead B := fun j hj => (hb.cell (p := ⟨1, j, none⟩) h1).trans (h j hj)
theorem TabLead.lt {w : World} (h : TabLead w) : 1 < w.heap.size := World.block_lt_of_cell? w _ (h 0 (by decide))
theorem TabLead.next {A B : World} (h : TabLead A) (hb : Below A.heap.size A B) : TabLead B := h.later h.lt hb
theorem TabLead.alloc {A : World} (h : TabLead A) (o : Obj) : TabLead (A.alloc o) := h.next ((Below.refl _ _).alloc (Nat.le_refl _) o)

/-- The call answers this set, and changes nothing that was there. -/
def U64L (n : Nat) (w : World) (e : Ending) (w' : World) : Prop := e = .returned (.int .u64 (n : Int)) ∧ Below w.heap.size w w'
/-- The call answers this set and changes nothing. -/
def U64S (n : Nat) (w : World) (e : Ending) (w' : World) : Prop := e = .returned (.int .u64 (n : Int)) ∧ w = w'

theorem ronly_any (s : Int) (w : World) : Calls Tryd.prog 71 #[.int .i64 s] w (U64S (onlyN s) w) := by
  have HZ := Lib.hid (show putN 0 s = onlyN s by simp [putN])
  go_enter Tryd.func71, Tryd.ntmps71
  go_wp2_with fail
  refine (put_any 0 s _ (by decide)).mono ?_; rintro e w' ⟨rfl, rfl⟩
  go_wp2
  go_ret
  exact ⟨ret_int (by rw [HZ.out]), rfl⟩

def turnD (d : Nat) (b : Int) : Nat := ((d : Int) + b).toNat % 8
theorem turnD_lt (d : Nat) (b : Int) : turnD d b < 8 := Nat.mod_lt _ (by decide)
theorem turned_any (d : Nat) (b : Int) (w : World) (hd : d < 8) (hb : 0 ≤ b ∧ b < 8) :
    Calls Tryd.prog 73 #[.int .i64 (d : Int), .int .i64 b] w fun e w' => e = .returned (.int .i64 (turnD d b : Nat)) ∧ w = w' := by
  go_enter Tryd.func73, Tryd.ntmps73
  go_wp2
  go_ret
  refine ⟨ret_int ?_, rfl⟩
  unfold turnD
  omega

/-- The cells of a block, from its first one, hold these numbers. -/
def IntCells (g : Nat) (l : List Int) (w : World) : Prop := ∀ k d, l[k]? = some d → w.cell? ⟨g, k, none⟩ = some (.int .i64 d)
theorem stepsN_take (b : Nat) (l : List Int) (k : Nat) (d : Int) (h : l[k]? = some d) : stepsN b (l.take k) ||| shiftN b d = stepsN b (l.take (k + 1)) := by
  rw [List.take_add_one, h, ← stepsN_snoc]; rfl
theorem steps_any (b g cap : Nat) (l : List Int) (w : World) (hb : b < W64) (hT : TabLead w) (hl : l.length ≤ 8) (hc : IntCells g l w) :
    Calls Tryd.prog 70 #[.int .u64 (b : Int), .slice (some ⟨g, 0, none⟩) l.length cap] w (U64S (stepsN b l) w) := by
  have HB := Lib.hid hb
  have HT := Lib.hid hT
  have HC := Lib.hid hc
  clear hb hT hc
  go_enter Tryd.func70, Tryd.ntmps70
  go_wp2
  go_loop [5, 10] (fun x i => ∃ k : Nat, k ≤ l.length ∧ i = .int .i64 k ∧ x = .int .u64 (stepsN b (l.take k) : Nat)) (fun _ i => l.length - (intOf i).toNat)
  case atStart => exact ⟨0, Nat.zero_le _, rfl, rfl⟩
  case round =>
    obtain ⟨k, hk, rfl, rfl⟩ := hrel
    by_cases hlt : k < l.length
    · obtain ⟨d, HD⟩ : ∃ d, Hid (l[k]? = some d) := ⟨_, Lib.hid (List.getElem?_eq_getElem hlt)⟩
      have hcell := HC.out k d HD.out
      have HO := Lib.hid (or_nat (stepsN_lt b (l.take k)) (shiftN_lt b d))
      have HS := Lib.hid (stepsN_take b l k d HD.out)
      go_wp2_with (go_at_call 72; refine (shift_any _ _ _ HB.out HT.out).mono ?_; rintro e w' ⟨rfl, rfl⟩)
      go_round
      case rel => exact ⟨k + 1, by omega, by go_num, by rw [← HS.out, ← HO.out]⟩
      case measure => simp [intOf]; omega
    · go_wp2
      go_ret
      obtain rfl : k = l.length := by omega
      exact ⟨ret_int (by rw [List.take_length]), rfl⟩
theorem cells_new (cs : Array Value) (l : List Int) (w : World) (t : TypeId) (h : cs = (l.map (Value.int .i64 ·)).toArray) : IntCells w.heap.size l (w.alloc (.cells cs t)) := by
  subst h; intro k d hk
  rw [World.cell?_alloc_new]
  simp [hk]
theorem below_new (w : World) (o : Obj) : Below w.heap.size w (w.alloc o) := (Below.refl _ _).alloc (Nat.le_refl _) o

theorem king_any (s : Int) (w : World) (hT : TabLead w) : Calls Tryd.prog 58 #[.int .i64 s] w (U64L (kingN s) w) := by
  have HT := Lib.hid hT
  have HK := Lib.hid (king_steps s)
  clear hT
  go_enter Tryd.func58, Tryd.ntmps58
  go_wp2_with fail
  refine (ronly_any _ _).mono ?_; rintro e w' ⟨rfl, rfl⟩
  go_wp2_with fail
  refine (steps_any (onlyN s) _ 8 kingSteps _ (onlyN_lt s) (HT.out.alloc _) (by decide) (cells_new _ _ _ _ rfl)).mono ?_; rintro e w' ⟨rfl, rfl⟩
  go_wp2
  go_ret
  exact ⟨ret_int (by rw [HK.out]), below_new _ _⟩

theorem pawn_any (c s : Int) (w : World) (hT : TabLead w) (hc : 0 ≤ c) : Calls Tryd.prog 48 #[.int .u8 c, .int .i64 s] w (U64L (pawnN c s) w) := by
  have HT := Lib.hid hT
  clear hT
  by_cases h0 : c = 0
  · subst h0
    have HK := Lib.hid (pawn_white s)
    go_enter Tryd.func48, Tryd.ntmps48
    go_wp2_with fail
    refine (ronly_any _ _).mono ?_; rintro e w' ⟨rfl, rfl⟩
    go_wp2_with fail
    refine (steps_any (onlyN s) _ 2 [7, 1] _ (onlyN_lt s) (HT.out.alloc _) (by decide) (cells_new _ _ _ _ rfl)).mono ?_; rintro e w' ⟨rfl, rfl⟩
    go_wp2
    go_ret
    exact ⟨ret_int (by rw [HK.out]), below_new _ _⟩
  · by_cases h1 : c = 1
    · subst h1
      have HK := Lib.hid (pawn_black s)
      go_enter Tryd.func48, Tryd.ntmps48
      go_wp2_with fail
      refine (ronly_any _ _).mono ?_; rintro e w' ⟨rfl, rfl⟩
      go_wp2_with fail
      refine (steps_any (onlyN s) _ 2 [5, 3] _ (onlyN_lt s) (HT.out.alloc _) (by decide) (cells_new _ _ _ _ rfl)).mono ?_; rintro e w' ⟨rfl, rfl⟩
      go_wp2
      go_ret
      exact ⟨ret_int (by rw [HK.out]), below_new _ _⟩
    · have HK := Lib.hid (pawnN_col (c := c) (s := s) (by simp; omega))
      have e0 : (c == 0) = false := by simpa using h0
      have e1 : (c == 1) = false := by simpa using h1
      clear h0 h1
      go_enter Tryd.func48, Tryd.ntmps48
      go_wp2
      go_ret
      exact ⟨ret_int (by rw [HK.out]; rfl), Below.refl _ _⟩

def knightTo (s : Int) : Nat → Nat
  | 0 => 0
  | k + 1 => knightTo s k ||| stepsN (shiftN (onlyN s) ((2 * k : Nat) : Int)) [((turnD (2 * k) 1 : Nat) : Int), ((turnD (2 * k) 7 : Nat) : Int)]
theorem knightTo_lt (s : Int) : ∀ k, knightTo s k < W64
  | 0 => by show (0 : Nat) < W64; decide
  | k + 1 => or_lt (knightTo_lt s k) (stepsN_lt _ _)
theorem knightTo_end (s : Int) : knightTo s 4 = knightN s := by
  rw [← knight_steps]
  show (((0 ||| stepsN (shiftN (onlyN s) 0) [1, 7]) ||| stepsN (shiftN (onlyN s) 2) [3, 1]) ||| stepsN (shiftN (onlyN s) 4) [5, 3]) ||| stepsN (shiftN (onlyN s) 6) [7, 5] = _
  rw [Nat.zero_or]; rfl
theorem knight_any (s : Int) (w : World) (hT : TabLead w) : Calls Tryd.prog 50 #[.int .i64 s] w (U64L (knightN s) w) := by
  have HT := Lib.hid hT
  have HK := Lib.hid (knightTo_end s)
  have HO := Lib.hid (onlyN_lt s)
  clear hT
  go_enter Tryd.func50, Tryd.ntmps50
  go_wp2_with (go_at_call 71; refine (ronly_any _ _).mono ?_; rintro e w' ⟨rfl, rfl⟩)
  go_loopw [4, 5] (fun x i wr => ∃ k d : Nat, k ≤ 4 ∧ d = 2 * k ∧ i = .int .i64 (d : Int) ∧ x = .int .u64 (knightTo s k : Nat) ∧ Below w.heap.size w wr) (fun _ i _ => 8 - (intOf i).toNat)
  case atStart => exact ⟨0, 0, by omega, rfl, rfl, rfl, Below.refl _ _⟩
  case round =>
    obtain ⟨k, d, hk, hd, rfl, rfl, hbel⟩ := hrel
    have HD := Lib.hid hd
    have HBl := Lib.hid hbel
    have HTr := Lib.hid (HT.out.next hbel)
    by_cases hlt : k < 4
    · have hd6 : d ≤ 6 := by omega
      have HX := Lib.hid (or_nat (knightTo_lt s k) (stepsN_lt (shiftN (onlyN s) (d : Int)) [((turnD d 1 : Nat) : Int), ((turnD d 7 : Nat) : Int)]))
      clear hd hbel
      go_wp2_with fail
      refine (shift_any _ _ _ HO.out HTr.out).mono ?_; rintro e w' ⟨rfl, rfl⟩
      go_wp2_with fail
      refine (turned_any d 1 _ (by omega) (by decide)).mono ?_; rintro e w' ⟨rfl, rfl⟩
      go_wp2_with fail
      refine (turned_any d 7 _ (by omega) (by decide)).mono ?_; rintro e w' ⟨rfl, rfl⟩
      go_wp2_with fail
      refine (steps_any _ _ 2 [((turnD d 1 : Nat) : Int), ((turnD d 7 : Nat) : Int)] _ (shiftN_lt _ _) (HTr.out.alloc _) (by simp) (cells_new _ _ _ _ rfl)).mono ?_; rintro e w' ⟨rfl, rfl⟩
      go_wp2
      go_roundw
      case rel => exact ⟨k + 1, d + 2, by omega, by have := HD.out; omega, by go_num, by rw [HX.out, HD.out]; rfl, HBl.out.alloc HBl.out.size _⟩
      case measure => simp [intOf]; omega
    · obtain rfl : k = 4 := by omega
      obtain rfl : d = 8 := by omega
      clear hbel
      go_wp2
      go_ret
      exact ⟨ret_int (by rw [HK.out]), HBl.out⟩
end Go.Proofs.YtlhepfighelijaaDoor
