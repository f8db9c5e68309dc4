/-
  Contracts of the program's layer 3, first part: only, turned, steps, King, Pawn, Knight.
-/
import Derived.Test.YtomhacepoeecjaaDoorLibBits
import Derived.Test.YtomhacepoeecjaaDoorRayMath
namespace Go.Proofs.YtomhacepoeecjaaDoor
open Go.RowKit

theorem TabLead.later {n₀ : Nat} {A B : World} (h : TabLead A) (h1 : 0 < n₀) (hb : Below n₀ A B) : TabLead B := fun j hj => (hb.cell (p := ⟨0, j, none⟩) h1).trans (h j hj)
theorem TabLead.lt {w : World} (h : TabLead w) : 0 < w.heap.size := World.block_lt_of_cell? w _ (h 0 (by decide))
theorem TabLead.next {A B : World} (h : TabLead A) (hb : Below A.heap.size A B) : TabLead B := h.later h.lt hb
theorem TabLead.alloc {A : World} (h : TabLead A) (o : Obj) : TabLead (A.alloc o) := h.next ((Below.refl _ _).alloc (Nat.le_refl _) o)

/-- The call answers this set, and changes nothing that was there. -/
def U64L (n : Nat) (w : World) (e : Ending) (w' : World) : Prop := e = .returned (.int .u64 (n : Int)) ∧ Below w.heap.size w w'
/-- The call answers this set and changes nothing. -/
def U64S (n : Nat) (w : World) (e : Ending) (w' : World) : Prop := e = .returned (.int .u64 (n : Int)) ∧ w = w'

theorem ronly_any (s : Int) (w : World) : Calls Tryd.prog 43 #[.int .i64 s] w (U64S (onlyN s) w) := by
  have HZ := Lib.hid (show putN 0 s = onlyN s by simp [putN])
  go_enter Tryd.func43, Tryd.ntmps43
  go_wp2_with fail
  refine (put_any 0 s _ (by decide)).mono ?_; rintro e w' ⟨rfl, rfl⟩
  go_wp2
  go_ret
  exact ⟨ret_int (by rw [HZ.out]), rfl⟩

def turnD (d : Nat) (b : Int) : Nat := ((d : Int) + b).toNat % 8
theorem turnD_lt (d : Nat) (b : Int) : turnD d b < 8 := Nat.mod_lt _ (by decide)
theorem turned_any (d : Nat) (b : Int) (w : World) (hd : d < 8) (hb : 0 ≤ b ∧ b < 8) :
    Calls Tryd.prog 44 #[.int .i64 (d : Int), .int .i64 b] w fun e w' => e = .returned (.int .i64 (turnD d b : Nat)) ∧ w = w' := by
  go_enter Tryd.func44, Tryd.ntmps44
  go_wp2
  go_ret
  refine ⟨ret_int ?_, rfl⟩
  unfold turnD
  omega

/-- The cells of a block, from its first one, hold these numbers. -/
def IntCells (g : Nat) (l : List Int) (w : World) : Prop := ∀ k d, l[k]? = some d → w.cell? ⟨g, k, none⟩ = some (.int .i64 d)
theorem stepsN_take (b : Nat) (l : List Int) (k : Nat) (d : Int) (h : l[k]? = some d) : stepsN b (l.take k) ||| shiftN b d = stepsN b (l.take (k + 1)) := by
  rw [List.take_add_one, h, ← stepsN_snoc]; rfl
theorem steps_any (b g cap : Nat) (l : List Int) (w : World) (hb : b < W64) (hT : TabLead w) (hl : l.length ≤ 8) (hc : IntCells g l w) :
    Calls Tryd.prog 46 #[.int .u64 (b : Int), .slice (some ⟨g, 0, none⟩) l.length cap] w (U64S (stepsN b l) w) := by
  have HB := Lib.hid hb
  have HT := Lib.hid hT
  have HC := Lib.hid hc
  clear hb hT hc
  go_enter Tryd.func46, Tryd.ntmps46
  go_wp2
  go_loop [5, 10] (fun x i => ∃ k : Nat, k ≤ l.length ∧ i = .int .i64 k ∧ x = .int .u64 (stepsN b (l.take k) : Nat)) (fun _ i => l.length - (intOf i).toNat)
  case atStart => exact ⟨0, Nat.zero_le _, rfl, rfl⟩
  case round =>
    obtain ⟨k, hk, rfl, rfl⟩ := hrel
    by_cases hlt : k < l.length
    · obtain ⟨d, HD⟩ : ∃ d, Hid (l[k]? = some d) := ⟨_, Lib.hid (List.getElem?_eq_getElem hlt)⟩
      have hcell := HC.out k d HD.out
      have HO := Lib.hid (or_nat (stepsN_lt b (l.take k)) (shiftN_lt b d))
      have HS := Lib.hid (stepsN_take b l k d HD.out)
      go_wp2_with (go_at_call 33; refine (shift_any _ _ _ HB.out HT.out).mono ?_; rintro e w' ⟨rfl, rfl⟩)
      go_round
      case rel => exact ⟨k + 1, by omega, by go_num, by rw [← HS.out, ← HO.out]⟩
      case measure => simp [intOf]; omega
    · go_wp2
      go_ret
      obtain rfl : k = l.length := by omega
      exact ⟨ret_int (by rw [List.take_length]), rfl⟩
theorem cells_new (cs : Array Value) (l : List Int) (w : World) (t : TypeId) (h : cs = (l.map (Value.int .i64 ·)).toArray) : IntCells w.heap.size l (w.alloc (.cells cs t)) := by
  subst h; intro k d hk
  rw [World.cell?_alloc_new]
  simp [hk]
theorem below_new (w : World) (o : Obj) : Below w.heap.size w (w.alloc o) := (Below.refl _ _).alloc (Nat.le_refl _) o

theorem king_any (s : Int) (w : World) (hT : TabLead w) : Calls Tryd.prog 26 #[.int .i64 s] w (U64L (kingN s) w) := by
  have HT := Lib.hid hT
  have HK := Lib.hid (king_steps s)
  clear hT
  go_enter Tryd.func26, Tryd.ntmps26
  go_wp2_with fail
  refine (ronly_any _ _).mono ?_; rintro e w' ⟨rfl, rfl⟩
  go_wp2_with fail
  refine (steps_any (onlyN s) _ 8 kingSteps _ (onlyN_lt s) (HT.out.alloc _) (by decide) (cells_new _ _ _ _ rfl)).mono ?_; rintro e w' ⟨rfl, rfl⟩
  go_wp2
  go_ret
  exact ⟨ret_int (by rw [HK.out]), below_new _ _⟩


end Go.Proofs.YtomhacepoeecjaaDoor
