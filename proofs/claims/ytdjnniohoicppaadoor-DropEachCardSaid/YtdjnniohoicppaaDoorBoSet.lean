/-
  Contracts of the program's set, Of, All.
-/
import Derived.Test.YtdjnniohoicppaaDoorAtBase
import Derived.Outline
namespace Go.Proofs.YtdjnniohoicppaaDoor
open Go.RowKit
set_option linter.unusedVariables false

/-- The squares up to k whose numbers f says yes to. -/
def bdTo (f : Int → Bool) (p : Nat → Int) : Nat → Nat
  | 0 => 0
  | k + 1 => bif f (p (1 + k)) then putN (bdTo f p k) (k : Int) else bdTo f p k
def setN (f : Int → Bool) (p : Nat → Int) : Nat := bdTo f p 64
theorem bdTo_lt (f : Int → Bool) (p : Nat → Int) : ∀ k, bdTo f p k < W64
  | 0 => by show 0 < W64; decide
  | k + 1 => by
    unfold bdTo
    cases f (p (1 + k))
    · exact bdTo_lt f p k
    · exact putN_lt (bdTo_lt f p k) _
theorem setN_lt (f : Int → Bool) (p : Nat → Int) : setN f p < W64 := bdTo_lt f p 64
theorem bdTo_yes {f : Int → Bool} {p : Nat → Int} {k : Nat} (h : f (p (1 + k)) = true) : putN (bdTo f p k) (k : Int) = bdTo f p (k + 1) := by rw [bdTo, h]; rfl
theorem bdTo_no {f : Int → Bool} {p : Nat → Int} {k : Nat} (h : f (p (1 + k)) = false) : bdTo f p k = bdTo f p (k + 1) := by rw [bdTo, h]; rfl
theorem bdTo_testBit (f : Int → Bool) (p : Nat → Int) : ∀ k, k ≤ 64 → ∀ i, (bdTo f p k).testBit i = (decide (i < k) && f (p (1 + i)))
  | 0, _, i => by simp [bdTo]
  | k + 1, hk, i => by
    have ih := bdTo_testBit f p k (by omega) i
    by_cases e : i = k
    · subst e
      cases h : f (p (1 + i))
      · rw [← bdTo_no h, ih, h]; simp
      · rw [← bdTo_yes h, putN_testBit, sq_true.2 ⟨by omega, by omega⟩]; simp
    · have hd : decide (i < k + 1) = decide (i < k) := by simp; omega
      rw [hd, ← ih]
      cases h : f (p (1 + k))
      · rw [← bdTo_no h]
      · rw [← bdTo_yes h, putN_testBit, decide_eq_false (show ¬ (k : Int) = (i : Int) by omega)]; simp
theorem setN_testBit (f : Int → Bool) (p : Nat → Int) (i : Nat) (hi : i < 64) : (setN f p).testBit i = f (p (1 + i)) := by
  unfold setN; rw [bdTo_testBit f p 64 (Nat.le_refl _), decide_eq_true hi, Bool.true_and]

/-- The board's cells. -/
def bdA (p : Nat → Int) : Array Value := (partL p 1 64).toArray
theorem bdA_size (p : Nat → Int) : (bdA p).size = 64 := by simp [bdA, partL_len]
theorem bdA_get (p : Nat → Int) (i : Nat) (h : i < 64) : (bdA p)[i]? = some (.int .u8 (p (1 + i))) := by
  unfold bdA; simp only [List.getElem?_toArray]
  have : (partL p 1 64)[i]? = some (.int (kAt (1 + i)) (p (1 + i))) := by simp [partL, h]
  rw [this, kAt_board (by omega) h]
theorem size22 : (Tryd.prog.info? 22).map (·.size) = some 64 := by kernel_rfl

theorem run_bd (p : Nat → Int) (k : Nat) (h : k < 64) (w : World) : (Instr.index 22 (.agg (bdA p)) (.int .i64 (k : Int))).run Tryd.prog w = .ok (.int .u8 (p (1 + k))) w := by
  have hg := bdA_get p k h
  have hs : ∀ w, (sizeOf 5).run Tryd.prog w = .ok 1 w := fun w => by
    cases hq : Tryd.prog.info? 5 with
    | none => have := size5; simp [hq] at this
    | some i => have := size5; simp [hq] at this; simp [sizeOf, typeInfo, hq, this]
  have ha : ∀ w, (isAgg 5).run Tryd.prog w = .ok false w := fun w => by
    unfold isAgg; rw [Sem.run_bind, run_underlying Tryd.underlying5 w]; simp
  simp [Instr.index, asIntOf, run_underlying Tryd.underlying22, hs, ha, part, hg]
  intro hh; omega

section laws
variable {ops : Array Oper} {rest : List Oper} {op : Oper} {a : Act} {w : World} {Q : Exit → Act → World → Prop}
/-- The board, out of a position. -/
theorem step_board (hgd : op.guard = none) (x : Operand) (ho : op.op = .load 22 x) (b : Nat) (hx : a.eval x = .pointer (some ⟨b, 1, none⟩)) (p : Nat → Int) (hr : Row w b p)
    (h : wpList Tryd.prog ops Q rest (a.put op.dst (.agg (bdA p))) w) : wpList Tryd.prog ops Q (op :: rest) a w :=
  wpList_load_mid hgd 22 x ho b 1 hx (partL p 1 64) _ (hr.range 1 64 (by omega)) Tryd.underlying22 rfl (by rw [partL_len]; exact size22) h
/-- A board's own block. -/
theorem step_own (hgd : op.guard = none) (x : Operand) (ho : op.op = .load 22 x) (b : Nat) (hx : a.eval x = .pointer (some ⟨b, 0, none⟩)) (p : Nat → Int) (hr : w.heap[b]? = some (.cells (bdA p) 22 (0, 0)))
    (h : wpList Tryd.prog ops Q rest (a.put op.dst (.agg (bdA p))) w) : wpList Tryd.prog ops Q (op :: rest) a w :=
  wpList_load_row hgd 22 x ho b hx 22 (bdA p) (0, 0) _ hr Tryd.underlying22 rfl (by rw [bdA_size]; exact size22) h
end laws

/-- Is the number that of a piece of the color and the kind? -/
def ofB (c k n : Int) : Bool := pcB n && ((colZ n == c) && ((k == 0) || (kndZ n == k)))
def DrewP (v : Value) (w : World) (e : Ending) (w' : World) : Prop := e = .returned v ∧ ∃ m, w' = w.drewN m
theorem is_at {p : Int} {b : Bool} (h : pcB p = b) (w : World) (hp : 0 ≤ p) (hq : p ≤ 255) : Calls Tryd.prog 30 #[.int .u8 p] w (Bo b w) := h ▸ is_any p w hp hq
set_option maxHeartbeats 1000000 in
theorem set_is (p : Nat → Int)  (w : World) (hp : BdR p) :
    Calls Tryd.prog 29 #[.agg (bdA p), .func (.func 30) #[] #[]] w (U64Post (setN pcB p) w) := by
  have HP := Lib.hid hp
  clear hp
  go_enter Tryd.func29, Tryd.ntmps29
  go_wp2_with (refine step_own rfl _ rfl _ rfl p (heap_alloc_new w _) ?_)
  go_loopw [5, 9] (fun x i wr => ∃ k : Nat, k ≤ 64 ∧ i = .int .i64 (k : Int) ∧ x = .int .u64 (bdTo pcB p k : Nat) ∧ Below w.heap.size w wr) (fun _ i _ => 64 - (intOf i).toNat)
  case atStart => exact ⟨0, by omega, rfl, rfl, box_below _ _⟩
  case round =>
    obtain ⟨k, hk, rfl, rfl, hb⟩ := hrel
    have HB := Lib.hid hb
    clear hb
    by_cases hlt : k < 64
    · obtain ⟨r0, r1⟩ := HP.out k hlt
      have hc := run_bd p k hlt
      have HX := Lib.hid (bdTo_lt pcB p k)
      have HY := Lib.hid (bdTo_yes (f := pcB) (p := p) (k := k))
      have HN := Lib.hid (bdTo_no (f := pcB) (p := p) (k := k))
      obtain ⟨n, Hn⟩ : ∃ n, Hid (p (1 + k) = n) := ⟨_, Lib.hid rfl⟩
      rw [Hn.out] at hc r0 r1
      cases h1 : pcB n
      · have HS := Lib.hid h1
        go_wp2_with fail
        refine (is_any _ _ r0 r1).mono ?_; rintro e w3 ⟨rfl, rfl⟩; have HB1 := HB
        go_wp2_with fail
        go_roundw
        case rel => exact ⟨k + 1, by omega, by go_num, by rw [HN.out (by rw [Hn.out]; exact HS.out)], HB1.out⟩
        case measure => simp [intOf]; omega
      · have HS := Lib.hid h1
        go_wp2_with fail
        refine (is_any _ _ r0 r1).mono ?_; rintro e w3 ⟨rfl, rfl⟩; have HB1 := HB
        go_wp2_with fail
        refine (put_any _ _ _ HX.out).mono ?_; rintro e w3 ⟨rfl, rfl⟩
        go_wp2_with fail
        go_roundw
        case rel => exact ⟨k + 1, by omega, by go_num, by rw [HY.out (by rw [Hn.out]; exact HS.out)], HB1.out⟩
        case measure => simp [intOf]; omega
    · obtain rfl : k = 64 := by omega
      go_wp2_with fail
      go_ret
      exact ⟨rfl, HB.out⟩
end Go.Proofs.YtdjnniohoicppaaDoor
