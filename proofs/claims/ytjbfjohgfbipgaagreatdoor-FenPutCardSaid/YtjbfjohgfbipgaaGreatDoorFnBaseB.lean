/-
  Several texts in one: BoAt, MathB, ListRef, StepRef, ShiftRef, BoSet, MathC, LibBits, BoOf, BoPut, BoPutRef, BoOfRef, Up, BoFindRef, SqRef, FnRef.
-/
import Derived.Test.YtjbfjohgfbipgaaGreatDoorFnBaseA
import Derived.OwnWalk
import Derived.Maps.AppendAt
import Derived.BigGuardPart
import Derived.Outline
import Derived.Lib.TrailingZeros
import Derived.Deep.Quiet
import Derived.IntWalk
/-
  Contracts of the program's and the document's At.
-/
namespace Go.Proofs.YtjbfjohgfbipgaaGreatDoor
open Go.RowKit

theorem isq_any (s : Int) (w : World) : Calls Tryz.prog 23 #[.int .i64 s] w (Bo (sq s) w) := by
  by_cases h0 : 0 ≤ s
  · have g0 : decide (0 ≤ s) = true := decide_eq_true h0
    have HS := Lib.hid (show decide (s < 64) = sq s by simp [sq, h0])
    go_enter Tryz.func23, Tryz.ntmps23
    go_wp2
    go_ret
    exact ⟨pc_bool HS.out, rfl⟩
  · have g0 : decide (0 ≤ s) = false := decide_eq_false h0
    have HS := Lib.hid (sq_false.2 (.inl (by omega) : s < 0 ∨ 64 ≤ s))
    go_enter Tryz.func23, Tryz.ntmps23
    go_wp2
    go_ret
    exact ⟨pc_bool HS.out.symm, rfl⟩

/-- What stands on the square. -/
def atZ (p : Nat → Int) (s : Int) : Int := if sq s = true then (if pcB (p (1 + s.toNat)) = true then p (1 + s.toNat) else 0) else 0

def BdR (p : Nat → Int) : Prop := ∀ i, i < 64 → 0 ≤ p (1 + i) ∧ p (1 + i) ≤ 255
theorem atZ_no {p : Nat → Int} {s : Int} (h : sq s = false) : atZ p s = 0 := by unfold atZ; rw [if_neg (by rw [h]; simp)]
theorem atZ_off {p : Nat → Int} {n : Nat} (h : sq (n : Int) = true) (h1 : pcB (p (1 + n)) = false) : atZ p (n : Int) = 0 := by
  unfold atZ; rw [if_pos h, Int.toNat_natCast, if_neg (by rw [h1]; simp)]
theorem atZ_yes {p : Nat → Int} {n : Nat} (h : sq (n : Int) = true) (h1 : pcB (p (1 + n)) = true) : atZ p (n : Int) = p (1 + n) := by
  unfold atZ; rw [if_pos h, Int.toNat_natCast, if_pos h1]
theorem box_below (w : World) (o : Obj) : Below w.heap.size w (w.alloc o) := (Below.refl _ _).alloc (Nat.le_refl _) o

end Go.Proofs.YtjbfjohgfbipgaaGreatDoor
/-
  Plain mathematics of sets of squares, second part: lists of squares, steps, flips, counts. Nothing of the program stands here.
-/
namespace Go.Proofs.YtjbfjohgfbipgaaGreatDoor

/-! Lists of squares. -/
def listTo (b k : Nat) : List Nat := (List.range k).filter (b.testBit ·)
def listN (b : Nat) : List Nat := listTo b 64
theorem listTo_yes {b k : Nat} (h : b.testBit k = true) : listTo b (k + 1) = listTo b k ++ [k] := by
  simp [listTo, List.range_succ, List.filter_append, h]
theorem listTo_no {b k : Nat} (h : b.testBit k = false) : listTo b (k + 1) = listTo b k := by
  simp [listTo, List.range_succ, List.filter_append, h]
theorem listTo_len (b k : Nat) : (listTo b k).length ≤ k := by
  have := List.length_filter_le (b.testBit ·) (List.range k)
  simpa [listTo] using this
theorem listN_len (b : Nat) : (listN b).length ≤ 64 := listTo_len b 64
theorem mem_listTo {b k i : Nat} : i ∈ listTo b k ↔ i < k ∧ b.testBit i = true := by simp [listTo]
theorem mem_listN {b i : Nat} : i ∈ listN b ↔ i < 64 ∧ b.testBit i = true := mem_listTo
theorem listN_lt {b k : Nat} (h : k < (listN b).length) : (listN b)[k] < 64 := (mem_listN.1 (List.getElem_mem h)).1
theorem listN_sorted (b : Nat) : (listN b).Pairwise (· < ·) := by
  unfold listN listTo
  exact List.Pairwise.filter _ List.pairwise_lt_range

/-- The set of some squares. -/
def ofList (l : List Int) : Nat := l.foldl putN 0
theorem foldl_testBit (l : List Int) : ∀ (b i : Nat), (l.foldl putN b).testBit i = (b.testBit i || decide (i < 64 ∧ (i : Int) ∈ l)) := by
  induction l with
  | nil => intro b i; simp
  | cons s l ih =>
    intro b i
    rw [List.foldl_cons, ih, putN_testBit]
    rw [Bool.eq_iff_iff]
    simp only [Bool.or_eq_true, Bool.and_eq_true, decide_eq_true_eq, List.mem_cons, sq_true]
    constructor
    · rintro ((h | ⟨h, rfl⟩) | h)
      · exact .inl h
      · exact .inr ⟨by omega, .inl rfl⟩
      · exact .inr ⟨h.1, .inr h.2⟩
    · rintro (h | ⟨h, rfl | h2⟩)
      · exact .inl (.inl h)
      · exact .inl (.inr ⟨by omega, rfl⟩)
      · exact .inr ⟨h, h2⟩
theorem ofList_testBit (l : List Int) (i : Nat) : (ofList l).testBit i = decide (i < 64 ∧ (i : Int) ∈ l) := by
  rw [ofList, foldl_testBit, Nat.zero_testBit, Bool.false_or]
theorem ofList_lt (l : List Int) : ofList l < W64 := by
  apply lt_W64_of_testBit
  intro i hi
  rw [ofList_testBit, decide_eq_false_iff_not]
  omega
theorem ofList_snoc (l : List Int) (s : Int) : ofList (l ++ [s]) = putN (ofList l) s := by simp [ofList, List.foldl_append]

/-! Steps. -/
def fileD (d : Int) : Int := if d = 0 ∨ d = 4 then 0 else if d ≤ 3 then 1 else -1
def rankD (d : Int) : Int := if d ≤ 1 ∨ d = 7 then 1 else if d = 2 ∨ d = 6 then 0 else -1
def dirB (d : Int) : Bool := decide (0 ≤ d) && decide (d < 8)
theorem dirB_true {d : Int} : dirB d = true ↔ 0 ≤ d ∧ d < 8 := by simp [dirB]
theorem dirB_false {d : Int} : dirB d = false ↔ d < 0 ∨ 8 ≤ d := by rw [← Bool.not_eq_true, dirB_true]; omega
def onB (f r : Int) : Bool := decide (0 ≤ f) && decide (f < 8) && decide (0 ≤ r) && decide (r < 8)
theorem onB_true {f r : Int} : onB f r = true ↔ 0 ≤ f ∧ f < 8 ∧ 0 ≤ r ∧ r < 8 := by simp [onB, and_assoc]
theorem onB_false {f r : Int} : onB f r = false ↔ f < 0 ∨ 8 ≤ f ∨ r < 0 ∨ 8 ≤ r := by rw [← Bool.not_eq_true, onB_true]; omega
def stepN (s d : Int) : Int :=
  if sq s && dirB d then (if onB (s % 8 + fileD d) (s / 8 + rankD d) then 8 * (s / 8 + rankD d) + (s % 8 + fileD d) else -1) else -1
theorem stepN_out {s d : Int} (h : (sq s && dirB d) = false) : stepN s d = -1 := by simp [stepN, h]
theorem stepN_off {s d : Int} (h : onB (s % 8 + fileD d) (s / 8 + rankD d) = false) : stepN s d = -1 := by simp [stepN, h]
theorem stepN_on {s d : Int} (h0 : (sq s && dirB d) = true) (h : onB (s % 8 + fileD d) (s / 8 + rankD d) = true) : stepN s d = 8 * (s / 8 + rankD d) + (s % 8 + fileD d) := by simp [stepN, h0, h]

def shiftN (b : Nat) (d : Int) : Nat := ofList ((listN b).map fun i : Nat => stepN (i : Int) d)
def flipS (s : Int) : Int := 8 * (7 - s / 8) + s % 8
def flipN (b : Nat) : Nat := ofList ((listN b).map fun i : Nat => flipS (i : Int))
theorem shiftN_lt (b : Nat) (d : Int) : shiftN b d < W64 := ofList_lt _
theorem flipN_lt (b : Nat) : flipN b < W64 := ofList_lt _

theorem shiftN_out (b : Nat) {d : Int} (h : dirB d = false) : shiftN b d = 0 := by
  apply Nat.eq_of_testBit_eq
  intro i
  rw [shiftN, ofList_testBit, Nat.zero_testBit, decide_eq_false_iff_not]
  rintro ⟨_, h2⟩
  obtain ⟨j, _, hj⟩ := List.mem_map.1 h2
  rw [stepN_out (by simp [h])] at hj
  omega

theorem fileD_cases (d : Int) : fileD d = 0 ∨ fileD d = 1 ∨ fileD d = -1 := by
  unfold fileD; split
  · simp
  · split <;> simp
theorem rankD_cases (d : Int) : rankD d = 0 ∨ rankD d = 1 ∨ rankD d = -1 := by
  unfold rankD; split
  · simp
  · split <;> simp
/-- How a direction changes a square's number. -/
def leadD (d : Int) : Int := 8 * rankD d + fileD d
theorem step_iff {s d t : Int} (hs : 0 ≤ s ∧ s < 64) (hd : 0 ≤ d ∧ d < 8) (ht : 0 ≤ t) :
    stepN s d = t ↔ s = t - leadD d ∧ onB (s % 8 + fileD d) (s / 8 + rankD d) = true := by
  have h0 : (sq s && dirB d) = true := by simp [sq_true.2 hs, dirB_true.2 hd]
  by_cases h : onB (s % 8 + fileD d) (s / 8 + rankD d) = true
  · rw [stepN_on h0 h]; unfold leadD; simp only [h, and_true]; omega
  · rw [stepN_off (by simpa using h)]; simp only [h]; simp; omega

theorem shiftN_testBit (b : Nat) (d : Int) (hd : 0 ≤ d ∧ d < 8) (i : Nat) (hi : i < 64) :
    (shiftN b d).testBit i = (onB ((i : Int) % 8 - fileD d) ((i : Int) / 8 - rankD d) && b.testBit ((i : Int) - leadD d).toNat) := by
  have hf : fileD d = 0 ∨ fileD d = 1 ∨ fileD d = -1 := fileD_cases d
  have hr : rankD d = 0 ∨ rankD d = 1 ∨ rankD d = -1 := rankD_cases d
  rw [shiftN, ofList_testBit, Bool.eq_iff_iff]
  simp only [decide_eq_true_eq, Bool.and_eq_true, List.mem_map, mem_listN]
  constructor
  · rintro ⟨_, j, ⟨hj, hb⟩, e⟩
    rw [step_iff ⟨by omega, by omega⟩ hd (by omega)] at e
    obtain ⟨e1, e2⟩ := e
    rw [onB_true] at e2
    have : ((i : Int) - leadD d).toNat = j := by omega
    rw [this]
    refine ⟨?_, hb⟩
    rw [onB_true]
    unfold leadD at e1
    generalize fileD d = f at *
    generalize rankD d = r at *
    omega
  · rintro ⟨h1, h2⟩
    rw [onB_true] at h1
    have hl : leadD d = 8 * rankD d + fileD d := rfl
    refine ⟨hi, ((i : Int) - leadD d).toNat, ⟨by omega, h2⟩, ?_⟩
    rw [step_iff ⟨by omega, by omega⟩ hd (by omega)]
    refine ⟨by omega, ?_⟩
    rw [onB_true]
    omega

theorem flip_mem {s : Int} {t : Int} (_ : 0 ≤ s ∧ s < 64) (_ : 0 ≤ t ∧ t < 64) : flipS s = t ↔ s = flipS t := by unfold flipS; omega
theorem flipN_testBit (b i : Nat) (hi : i < 64) : (flipN b).testBit i = b.testBit (flipS (i : Int)).toNat := by
  rw [flipN, ofList_testBit, Bool.eq_iff_iff]
  simp only [decide_eq_true_eq, List.mem_map, mem_listN]
  constructor
  · rintro ⟨_, j, ⟨hj, hb⟩, e⟩
    rw [flip_mem ⟨by omega, by omega⟩ ⟨by omega, by omega⟩] at e
    rw [← e]; simpa using hb
  · intro h
    refine ⟨hi, (flipS (i : Int)).toNat, ⟨?_, h⟩, ?_⟩
    · unfold flipS; omega
    · have e : (((flipS (i : Int)).toNat : Nat) : Int) = flipS i := by unfold flipS; omega
      rw [e]; unfold flipS; omega

/-! The program's own formula for a step. -/
def edgeN (d : Int) : Nat := if d = 1 ∨ d = 2 ∨ d = 3 then 9259542123273814144 else if d = 5 ∨ d = 6 ∨ d = 7 then 72340172838076673 else 0
theorem edgeN_lt (d : Int) : edgeN d < W64 := by
  unfold edgeN; split
  · decide
  · split <;> decide
theorem fileH_bits : ∀ i, i < 64 → (9259542123273814144 : Nat).testBit i = decide (i % 8 = 7) := by decide
theorem fileA_bits : ∀ i, i < 64 → (72340172838076673 : Nat).testBit i = decide (i % 8 = 0) := by decide
theorem edgeN_testBit (d : Int) (hd : 0 ≤ d ∧ d < 8) (i : Nat) (hi : i < 64) : (edgeN d).testBit i = !(decide (0 ≤ (i : Int) % 8 + fileD d) && decide ((i : Int) % 8 + fileD d < 8)) := by
  unfold edgeN fileD
  by_cases h1 : d = 1 ∨ d = 2 ∨ d = 3
  · rw [if_pos h1, fileH_bits i hi, if_neg (by omega), if_pos (by omega), Bool.eq_iff_iff]; simp; omega
  · rw [if_neg h1]
    by_cases h2 : d = 5 ∨ d = 6 ∨ d = 7
    · rw [if_pos h2, fileA_bits i hi, if_neg (by omega), if_neg (by omega), Bool.eq_iff_iff]; simp; omega
    · rw [if_neg h2, if_pos (by omega), Nat.zero_testBit, eq_comm, Bool.not_eq_false']; simp; omega
/-- The set without the file from which the step would go round. -/
def keptN (b : Nat) (d : Int) : Nat := b ^^^ (b &&& edgeN d)
theorem keptN_lt {b : Nat} (hb : b < W64) (d : Int) : keptN b d < W64 := Nat.xor_lt_two_pow (n := 64) hb (Nat.and_lt_two_pow (n := 64) _ (edgeN_lt d))
theorem keptN_testBit (b : Nat) (d : Int) (i : Nat) : (keptN b d).testBit i = (b.testBit i && !(edgeN d).testBit i) := by
  rw [keptN, Nat.testBit_xor, Nat.testBit_and]
  cases b.testBit i <;> cases (edgeN d).testBit i <;> rfl
theorem leadD_cases (d : Int) (hd : 0 ≤ d ∧ d < 8) : (d = 0 ∧ leadD d = 8) ∨ (d = 1 ∧ leadD d = 9) ∨ (d = 2 ∧ leadD d = 1) ∨ (d = 3 ∧ leadD d = -7) ∨ (d = 4 ∧ leadD d = -8) ∨ (d = 5 ∧ leadD d = -9) ∨ (d = 6 ∧ leadD d = -1) ∨ (d = 7 ∧ leadD d = 7) := by
  have : d = 0 ∨ d = 1 ∨ d = 2 ∨ d = 3 ∨ d = 4 ∨ d = 5 ∨ d = 6 ∨ d = 7 := by omega
  rcases this with rfl | rfl | rfl | rfl | rfl | rfl | rfl | rfl <;> decide
theorem shift_up (b : Nat) (d : Int) (hd : 0 ≤ d ∧ d < 8) (h : 0 ≤ leadD d) : keptN b d * 2 ^ (leadD d).toNat % W64 = shiftN b d := by
  apply eq_of_bits (Nat.mod_lt _ (by decide)) (shiftN_lt b d)
  intro i hi
  rw [W64_eq, Nat.testBit_mod_two_pow, ← Nat.shiftLeft_eq, Nat.testBit_shiftLeft, shiftN_testBit b d hd i hi, decide_eq_true hi, Bool.true_and]
  have hl : leadD d = 8 * rankD d + fileD d := rfl
  have hr := rankD_cases d
  have hf := fileD_cases d
  by_cases hle : (leadD d).toNat ≤ i
  · have e : ((i : Int) - leadD d).toNat = i - (leadD d).toNat := by omega
    rw [decide_eq_true hle, Bool.true_and, keptN_testBit, edgeN_testBit d hd _ (by omega), e, Bool.not_not, Bool.and_comm]
    congr 1
    rw [Bool.eq_iff_iff, onB_true]
    simp only [Bool.and_eq_true, decide_eq_true_eq]
    omega
  · rw [decide_eq_false hle, Bool.false_and]
    rw [eq_comm, Bool.and_eq_false_iff, onB_false]
    omega
theorem shift_down {b : Nat} (hb : b < W64) (d : Int) (hd : 0 ≤ d ∧ d < 8) (h : leadD d < 0) : keptN b d / 2 ^ (-leadD d).toNat = shiftN b d := by
  apply eq_of_bits (Nat.lt_of_le_of_lt (Nat.div_le_self _ _) (keptN_lt hb d)) (shiftN_lt b d)
  intro i hi
  rw [← Nat.shiftRight_eq_div_pow, Nat.testBit_shiftRight, shiftN_testBit b d hd i hi]
  have hl : leadD d = 8 * rankD d + fileD d := rfl
  have hr := rankD_cases d
  have hf := fileD_cases d
  have e : ((i : Int) - leadD d).toNat = (-leadD d).toNat + i := by omega
  rw [e]
  by_cases hle : (-leadD d).toNat + i < 64
  · rw [keptN_testBit, edgeN_testBit d hd _ hle, Bool.not_not, Bool.and_comm]
    congr 1
    rw [Bool.eq_iff_iff, onB_true]
    simp only [Bool.and_eq_true, decide_eq_true_eq]
    omega
  · rw [testBit_high (keptN_lt hb d) (by omega), testBit_high hb (by omega), Bool.and_false]

end Go.Proofs.YtjbfjohgfbipgaaGreatDoor
/-
  Contracts of the document's own List, Step, Shift, Flip, Same.
-/
namespace Go.Proofs.YtjbfjohgfbipgaaGreatDoor
open Go.RowKit

theorem infoInt : (Tryz.prog.info? 3).map (fun i => (i.zero, i.size, i.bytes)) = some (some (.int .i64 0), 1, 8) := by kernel_rfl

/-- A list of numbers as the cells of a row. -/
def rowOf (l : List Nat) : List Value := l.map fun i : Nat => Value.int .i64 (i : Int)
theorem rowOf_snoc (l : List Nat) (k : Nat) : rowOf (l ++ [k]) = rowOf l ++ [.int .i64 (k : Int)] := by simp [rowOf]
/-- The value is a list of the call's own, made at or beyond block B. -/
def Listed (B : Nat) (l : List Nat) (v : Value) (w : World) : Prop := w.ownsRow B 3 1 v l.length (rowOf l)
theorem listed_grow {B : Nat} {l : List Nat} {v v' : Value} {k : Nat} {w wr w1 : World} {o : Obj} (h : Listed B l v wr) (hb : Below B w wr) (hB : B ≤ wr.heap.size)
    (hown' : w1.ownsRow B 3 1 v' (l.length + 1) (rowOf l ++ [.int .i64 (k : Int)])) (hgrow : (wr.alloc o).grownBy w1 v.ownBlock) :
    Listed B (l ++ [k]) v' w1 ∧ Below B w w1 := by
  refine ⟨?_, (hb.alloc hB o).grown hgrow (by simp; omega) (fun j hj => (h.lt j hj).1)⟩
  unfold Listed
  rw [rowOf_snoc]; simpa using hown'
def ListPost (b : Nat) (w : World) (e : Ending) (w' : World) : Prop := ∃ v, e = .returned v ∧ Listed w.heap.size (listN b) v w' ∧ Below w.heap.size w w'

end Go.Proofs.YtjbfjohgfbipgaaGreatDoor
/-
  The contract of the document's own Step.
-/
namespace Go.Proofs.YtjbfjohgfbipgaaGreatDoor
open Go.RowKit

/-- The call answers this number, and changes nothing that was there. -/
def IntPost (n : Int) (w : World) (e : Ending) (w' : World) : Prop := e = .returned (.int .i64 n) ∧ Below w.heap.size w w'

theorem step_val (s d f r : Int) (hs : 0 ≤ s ∧ s < 64) (hd : 0 ≤ d ∧ d < 8) (hf : fileD d = f) (hr : rankD d = r) :
    stepN s d = if 0 ≤ s % 8 + f ∧ s % 8 + f < 8 ∧ 0 ≤ s / 8 + r ∧ s / 8 + r < 8 then 8 * (s / 8 + r) + (s % 8 + f) else -1 := by
  have h0 : (sq s && dirB d) = true := by simp [sq_true.2 hs, dirB_true.2 hd]
  subst hf hr
  by_cases h : 0 ≤ s % 8 + fileD d ∧ s % 8 + fileD d < 8 ∧ 0 ≤ s / 8 + rankD d ∧ s / 8 + rankD d < 8
  · rw [if_pos h, stepN_on h0 (onB_true.2 h)]
  · rw [if_neg h, stepN_off (by rw [← Bool.not_eq_true, onB_true]; exact h)]

theorem below_drewN {B : Nat} {a w : World} (h : Below B a w) (n : Nat) : Below B a (w.drewN n) := h.trans ⟨rfl, rfl, rfl, Nat.le_refl _, fun _ _ => rfl⟩
theorem below2 (w : World) (o o' : Obj) : Below w.heap.size w ((w.alloc o).alloc o') := ((Below.refl _ _).alloc (Nat.le_refl _) o).alloc (by simp) o'

end Go.Proofs.YtjbfjohgfbipgaaGreatDoor
/-
  Contracts of the document's own Shift, Flip, Same.
-/
namespace Go.Proofs.YtjbfjohgfbipgaaGreatDoor
open Go.RowKit

def U64Post (n : Nat) (w : World) (e : Ending) (w' : World) : Prop := e = .returned (.int .u64 (n : Int)) ∧ Below w.heap.size w w'

/-- The list lies in a block: its cells hold its numbers. -/
def Cells (B : Nat) (l : List Nat) (p : Option Addr) (w : World) : Prop :=
  0 < l.length → ∃ g, p = some ⟨g, 0, none⟩ ∧ B ≤ g ∧ g < w.heap.size ∧ ∀ k s, l[k]? = some s → w.cell? ⟨g, k, none⟩ = some (.int .i64 ((s : Nat) : Int)) ∧ w.frozen? ⟨g, k, none⟩ = false
theorem listed_open {B : Nat} {l : List Nat} {v : Value} {w : World} (h : Listed B l v w) : ∃ p cap, v = .slice p l.length cap ∧ Cells B l p w := by
  rcases h.2 with ⟨rfl, hn⟩ | ⟨g, cap, cur, rfl, hB, hg, h1, h2, h3, h4⟩
  · exact ⟨none, 0, by rw [hn], fun h0 => by omega⟩
  · refine ⟨_, cap, rfl, fun _ => ⟨g, rfl, hB, (Array.getElem?_eq_some_iff.1 hg).1, fun k s hk => ⟨?_, ?_⟩⟩⟩
    · have hc := h.cells (g := g) rfl k (.int .i64 ((s : Nat) : Int)) (by simp [rowOf, hk])
      have hadd : (⟨g, 0, none⟩ : Addr).add k = ⟨g, k, none⟩ := by unfold Addr.add; split <;> simp_all
      rwa [hadd] at hc
    · simp [World.frozen?, hg]
theorem Cells.later {B : Nat} {l : List Nat} {p : Option Addr} {w w' : World} (h : Cells B l p w) (hb : Below w.heap.size w w') : Cells B l p w' := by
  intro h0
  obtain ⟨g, h1, h2, h3, h4⟩ := h h0
  exact ⟨g, h1, h2, Nat.lt_of_lt_of_le h3 hb.size, fun k s hk => ⟨(hb.cell (p := ⟨g, k, none⟩) h3).trans (h4 k s hk).1, (hb.frozen (p := ⟨g, k, none⟩) h3).trans (h4 k s hk).2⟩⟩
theorem take_snoc {α : Type} (l : List α) (k : Nat) (s : α) (h : l[k]? = some s) : l.take (k + 1) = l.take k ++ [s] := by
  rw [List.take_add_one, h]; rfl
/-- The set after k rounds. -/
def accN (f : Int → Int) (l : List Nat) (k : Nat) : Nat := ofList ((l.take k).map fun i : Nat => f (i : Int))
theorem accN_lt (f : Int → Int) (l : List Nat) (k : Nat) : accN f l k < W64 := ofList_lt _
theorem accN_succ (f : Int → Int) (l : List Nat) (k s : Nat) (h : l[k]? = some s) : putN (accN f l k) (f (s : Int)) = accN f l (k + 1) := by
  unfold accN; rw [take_snoc l k s h, List.map_append, List.map_cons, List.map_nil, ofList_snoc]
theorem accN_all (f : Int → Int) (l : List Nat) : accN f l l.length = ofList (l.map fun i : Nat => f (i : Int)) := by
  unfold accN; rw [List.take_length]

theorem quiet_c {P : Program} {f : FuncId} {args : Array Value} {w : World} {n : Nat} {v : Value}
    (h : Calls P f args (w.drewN n) fun e w' => e = .returned v ∧ w.drewN n = w') : Calls P f args (w.drewN n) fun e w'' => e = .returned v ∧ ∃ m, w'' = w.drewN m :=
  h.mono fun _ _ ⟨he, hm⟩ => ⟨he, n, hm.symm⟩
end Go.Proofs.YtjbfjohgfbipgaaGreatDoor
/-
  Contracts of the program's set, Of, All.
-/
namespace Go.Proofs.YtjbfjohgfbipgaaGreatDoor
open Go.RowKit
set_option linter.unusedVariables false

/-- The squares up to k whose numbers f says yes to. -/
def bdTo (f : Int → Bool) (p : Nat → Int) : Nat → Nat
  | 0 => 0
  | k + 1 => bif f (p (1 + k)) then putN (bdTo f p k) (k : Int) else bdTo f p k
def setN (f : Int → Bool) (p : Nat → Int) : Nat := bdTo f p 64
theorem bdTo_lt (f : Int → Bool) (p : Nat → Int) : ∀ k, bdTo f p k < W64
  | 0 => by show 0 < W64; decide
  | k + 1 => by
    unfold bdTo
    cases f (p (1 + k))
    · exact bdTo_lt f p k
    · exact putN_lt (bdTo_lt f p k) _
theorem setN_lt (f : Int → Bool) (p : Nat → Int) : setN f p < W64 := bdTo_lt f p 64
theorem bdTo_yes {f : Int → Bool} {p : Nat → Int} {k : Nat} (h : f (p (1 + k)) = true) : putN (bdTo f p k) (k : Int) = bdTo f p (k + 1) := by rw [bdTo, h]; rfl
theorem bdTo_no {f : Int → Bool} {p : Nat → Int} {k : Nat} (h : f (p (1 + k)) = false) : bdTo f p k = bdTo f p (k + 1) := by rw [bdTo, h]; rfl
theorem bdTo_testBit (f : Int → Bool) (p : Nat → Int) : ∀ k, k ≤ 64 → ∀ i, (bdTo f p k).testBit i = (decide (i < k) && f (p (1 + i)))
  | 0, _, i => by simp [bdTo]
  | k + 1, hk, i => by
    have ih := bdTo_testBit f p k (by omega) i
    by_cases e : i = k
    · subst e
      cases h : f (p (1 + i))
      · rw [← bdTo_no h, ih, h]; simp
      · rw [← bdTo_yes h, putN_testBit, sq_true.2 ⟨by omega, by omega⟩]; simp
    · have hd : decide (i < k + 1) = decide (i < k) := by simp; omega
      rw [hd, ← ih]
      cases h : f (p (1 + k))
      · rw [← bdTo_no h]
      · rw [← bdTo_yes h, putN_testBit, decide_eq_false (show ¬ (k : Int) = (i : Int) by omega)]; simp
theorem setN_testBit (f : Int → Bool) (p : Nat → Int) (i : Nat) (hi : i < 64) : (setN f p).testBit i = f (p (1 + i)) := by
  unfold setN; rw [bdTo_testBit f p 64 (Nat.le_refl _), decide_eq_true hi, Bool.true_and]

/-- The board's cells. -/
def bdA (p : Nat → Int) : Array Value := (partL p 1 64).toArray
theorem bdA_size (p : Nat → Int) : (bdA p).size = 64 := by simp [bdA, partL_len]
theorem bdA_get (p : Nat → Int) (i : Nat) (h : i < 64) : (bdA p)[i]? = some (.int .u8 (p (1 + i))) := by
  unfold bdA; simp only [List.getElem?_toArray]
  have : (partL p 1 64)[i]? = some (.int (kAt (1 + i)) (p (1 + i))) := by simp [partL, h]
  rw [this, kAt_board (by omega) h]
theorem size22 : (Tryz.prog.info? 22).map (·.size) = some 64 := by kernel_rfl

theorem run_bd (p : Nat → Int) (k : Nat) (h : k < 64) (w : World) : (Instr.index 22 (.agg (bdA p)) (.int .i64 (k : Int))).run Tryz.prog w = .ok (.int .u8 (p (1 + k))) w := by
  have hg := bdA_get p k h
  have hs : ∀ w, (sizeOf 5).run Tryz.prog w = .ok 1 w := fun w => by
    cases hq : Tryz.prog.info? 5 with
    | none => have := size5; simp [hq] at this
    | some i => have := size5; simp [hq] at this; simp [sizeOf, typeInfo, hq, this]
  have ha : ∀ w, (isAgg 5).run Tryz.prog w = .ok false w := fun w => by
    unfold isAgg; rw [Sem.run_bind, run_underlying Tryz.underlying5 w]; simp
  simp [Instr.index, asIntOf, run_underlying Tryz.underlying22, hs, ha, part, hg]
  intro hh; omega

section laws
variable {ops : Array Oper} {rest : List Oper} {op : Oper} {a : Act} {w : World} {Q : Exit → Act → World → Prop}
/-- The board, out of a position. -/
theorem step_board (hgd : op.guard = none) (x : Operand) (ho : op.op = .load 22 x) (b : Nat) (hx : a.eval x = .pointer (some ⟨b, 1, none⟩)) (p : Nat → Int) (hr : Row w b p)
    (h : wpList Tryz.prog ops Q rest (a.put op.dst (.agg (bdA p))) w) : wpList Tryz.prog ops Q (op :: rest) a w :=
  wpList_load_mid hgd 22 x ho b 1 hx (partL p 1 64) _ (hr.range 1 64 (by omega)) Tryz.underlying22 rfl (by rw [partL_len]; exact size22) h
/-- A board's own block. -/
theorem step_own (hgd : op.guard = none) (x : Operand) (ho : op.op = .load 22 x) (b : Nat) (hx : a.eval x = .pointer (some ⟨b, 0, none⟩)) (p : Nat → Int) (hr : w.heap[b]? = some (.cells (bdA p) 22 (0, 0)))
    (h : wpList Tryz.prog ops Q rest (a.put op.dst (.agg (bdA p))) w) : wpList Tryz.prog ops Q (op :: rest) a w :=
  wpList_load_row hgd 22 x ho b hx 22 (bdA p) (0, 0) _ hr Tryz.underlying22 rfl (by rw [bdA_size]; exact size22) h
end laws

/-- Is the number that of a piece of the color and the kind? -/
def ofB (c k n : Int) : Bool := pcB n && ((colZ n == c) && ((k == 0) || (kndZ n == k)))
def DrewP (v : Value) (w : World) (e : Ending) (w' : World) : Prop := e = .returned v ∧ ∃ m, w' = w.drewN m
theorem is_at {p : Int} {b : Bool} (h : pcB p = b) (w : World) (hp : 0 ≤ p) (hq : p ≤ 255) : Calls Tryz.prog 11 #[.int .u8 p] w (Bo b w) := h ▸ is_any p w hp hq
end Go.Proofs.YtjbfjohgfbipgaaGreatDoor
/-
  Plain mathematics of sets of squares, third part: how many squares there are, and the ranks turned about, as the Go library reckons them, byte by byte. Nothing of the program stands here.
-/
namespace Go.Proofs.YtjbfjohgfbipgaaGreatDoor

/-! A number out of its bytes. -/
def val : List Nat → Nat
  | [] => 0
  | a :: l => a + 256 * val l
theorem byte_and (a c n m : Nat) (ha : a < 256) (hc : c < 256) : (a + 256 * n) &&& (c + 256 * m) = (a &&& c) + 256 * (n &&& m) := by
  have hac : a &&& c < 2 ^ 8 := Nat.and_lt_two_pow _ hc
  apply Nat.eq_of_testBit_eq
  intro i
  rw [Nat.add_comm a, Nat.add_comm c, Nat.add_comm (a &&& c), Nat.testBit_and]
  have e : (256 : Nat) = 2 ^ 8 := rfl
  rw [e, Nat.testBit_two_pow_mul_add n (by omega), Nat.testBit_two_pow_mul_add m (by omega), Nat.testBit_two_pow_mul_add (n &&& m) hac]
  split <;> rw [Nat.testBit_and]

def f1 (x m : Nat) : Nat := (x / 2 &&& m) + (x &&& m)
def f2 (x m : Nat) : Nat := (x / 4 &&& m) + (x &&& m)
def f3 (x m : Nat) : Nat := (x / 16 + x) &&& m
theorem f1_low : ∀ a, a < 256 → (a + 128 * 0) < 256 ∧ ((a / 2 + 128 * 0) &&& 85) = (a / 2 &&& 85) ∧ ((a / 2 + 128 * 1) &&& 85) = (a / 2 &&& 85) ∧ f1 a 85 < 256 := by decide +kernel
theorem f2_low : ∀ a, a < 256 → ((a / 4 + 64 * 0) &&& 51) = (a / 4 &&& 51) ∧ ((a / 4 + 64 * 1) &&& 51) = (a / 4 &&& 51) ∧ ((a / 4 + 64 * 2) &&& 51) = (a / 4 &&& 51) ∧ ((a / 4 + 64 * 3) &&& 51) = (a / 4 &&& 51) ∧ f2 a 51 < 256 := by decide +kernel
theorem f1_byte (a n m : Nat) (ha : a < 256) : f1 (a + 256 * n) (85 + 256 * m) = f1 a 85 + 256 * f1 n m := by
  unfold f1
  have e : (a + 256 * n) / 2 = (a / 2 + 128 * (n % 2)) + 256 * (n / 2) := by omega
  rw [e, byte_and _ _ _ _ (by omega) (by decide), byte_and _ _ _ _ ha (by decide)]
  have h := f1_low a ha
  have h2 : n % 2 = 0 ∨ n % 2 = 1 := by omega
  rcases h2 with h2 | h2 <;> rw [h2]
  · rw [h.2.1]; omega
  · rw [h.2.2.1]; omega
theorem f2_byte (a n m : Nat) (ha : a < 256) : f2 (a + 256 * n) (51 + 256 * m) = f2 a 51 + 256 * f2 n m := by
  unfold f2
  have e : (a + 256 * n) / 4 = (a / 4 + 64 * (n % 4)) + 256 * (n / 4) := by omega
  rw [e, byte_and _ _ _ _ (by omega) (by decide), byte_and _ _ _ _ ha (by decide)]
  have h := f2_low a ha
  have h2 : n % 4 = 0 ∨ n % 4 = 1 ∨ n % 4 = 2 ∨ n % 4 = 3 := by omega
  rcases h2 with h2 | h2 | h2 | h2 <;> rw [h2]
  · rw [h.1]; omega
  · rw [h.2.1]; omega
  · rw [h.2.2.1]; omega
  · rw [h.2.2.2.1]; omega
def nib (a : Nat) : Prop := a % 16 ≤ 4 ∧ a / 16 ≤ 4
theorem f3_byte (a n m : Nat) (ha : nib a) (hn : n % 16 ≤ 4) : f3 (a + 256 * n) (15 + 256 * m) = (a / 16 + a % 16) + 256 * f3 n m := by
  unfold f3
  unfold nib at ha
  have e : (a + 256 * n) / 16 + (a + 256 * n) = (a / 16 + 16 * (n % 16) + a) + 256 * (n / 16 + n) := by omega
  rw [e, byte_and _ _ _ _ (by omega) (by decide)]
  have h15 : ∀ y : Nat, y &&& 15 = y % 16 := fun y => Nat.and_two_pow_sub_one_eq_mod y 4
  rw [h15]
  omega

def g1 (a : Nat) : Nat := f1 a 85
def g2 (a : Nat) : Nat := f2 (g1 a) 51
def g3 (a : Nat) : Nat := g2 a / 16 + g2 a % 16
def popN : Nat → Nat → Nat
  | 0, _ => 0
  | k + 1, b => b % 2 + popN k (b / 2)
theorem bytes_ok : ∀ a, a < 256 → g1 a < 256 ∧ g2 a < 256 ∧ (g2 a % 16 ≤ 4 ∧ g2 a / 16 ≤ 4) ∧ g3 a = popN 8 a ∧ g3 a ≤ 8 := by decide +kernel

theorem lay1 : ∀ l : List Nat, (∀ a ∈ l, a < 256) → f1 (val l) (val (l.map fun _ => 85)) = val (l.map g1)
  | [], _ => rfl
  | a :: l, h => by
    simp only [val, List.map_cons]
    rw [f1_byte _ _ _ (h a (by simp)), lay1 l (fun x hx => h x (by simp [hx]))]; rfl
theorem lay2 : ∀ l : List Nat, (∀ a ∈ l, a < 256) → f2 (val (l.map g1)) (val (l.map fun _ => 51)) = val (l.map g2)
  | [], _ => rfl
  | a :: l, h => by
    simp only [val, List.map_cons]
    rw [f2_byte _ _ _ (bytes_ok a (h a (by simp))).1, lay2 l (fun x hx => h x (by simp [hx]))]; rfl
theorem low_nib : ∀ l : List Nat, (∀ a ∈ l, a < 256) → val (l.map g2) % 16 ≤ 4
  | [], _ => by decide
  | a :: l, h => by
    simp only [val, List.map_cons]
    have := (bytes_ok a (h a (by simp))).2.2.1.1
    omega
theorem lay3 : ∀ l : List Nat, (∀ a ∈ l, a < 256) → f3 (val (l.map g2)) (val (l.map fun _ => 15)) = val (l.map g3)
  | [], _ => rfl
  | a :: l, h => by
    simp only [val, List.map_cons]
    rw [f3_byte _ _ _ (bytes_ok a (h a (by simp))).2.2.1 (low_nib l (fun x hx => h x (by simp [hx]))), lay3 l (fun x hx => h x (by simp [hx]))]; rfl

theorem popN_byte (a n k : Nat) (ha : a < 256) : popN (k + 8) (a + 256 * n) = popN 8 a + popN k n := by
  have e : (a + 256 * n) / 2 / 2 / 2 / 2 / 2 / 2 / 2 / 2 = n := by omega
  simp only [popN, e]
  omega
theorem popN_val : ∀ l : List Nat, (∀ a ∈ l, a < 256) → popN (8 * l.length) (val l) = (l.map (popN 8)).sum
  | [], _ => rfl
  | a :: l, h => by
    simp only [val, List.map_cons, List.sum_cons, List.length_cons]
    rw [Nat.mul_succ, popN_byte _ _ _ (h a (by simp)), popN_val l (fun x hx => h x (by simp [hx]))]

theorem listTo_pop : ∀ (k b : Nat), (listTo b k).length = popN k b
  | 0, _ => rfl
  | k + 1, b => by
    have ih := listTo_pop k (b / 2)
    unfold listTo at ih ⊢
    rw [List.range_succ_eq_map, List.filter_cons, List.filter_map, popN, ← ih]
    have e : ((fun x => b.testBit x) ∘ Nat.succ) = fun x => (b / 2).testBit x := by
      funext x; simp [Function.comp, Nat.testBit_succ]
    rw [e]
    have h0 : b.testBit 0 = decide (b % 2 = 1) := Nat.testBit_zero b
    by_cases h : b % 2 = 1
    · simp [h0, h]; omega
    · have : b % 2 = 0 := by omega
      simp [h0, this]

def bytesOf (x : Nat) : List Nat := [x % 256, x / 256 % 256, x / 65536 % 256, x / 16777216 % 256, x / 4294967296 % 256, x / 1099511627776 % 256, x / 281474976710656 % 256, x / 72057594037927936]
theorem val_bytesOf (x : Nat) : val (bytesOf x) = x := by simp only [bytesOf, val]; omega
theorem bytesOf_lt {x : Nat} (h : x < W64) : ∀ a ∈ bytesOf x, a < 256 := by
  unfold W64 at h
  intro a ha
  simp only [bytesOf, List.mem_cons, List.not_mem_nil, or_false] at ha
  omega

theorem div_step (k a n : Nat) (ha : a < k) : (a + k * n) / k = n := by
  have hk : 0 < k := by omega
  rw [Nat.add_mul_div_left _ _ hk, Nat.div_eq_of_lt ha, Nat.zero_add]

theorem fold_sum (b0 b1 b2 b3 b4 b5 b6 b7 y z u : Nat) (h0 : b0 ≤ 8) (h1 : b1 ≤ 8) (h2 : b2 ≤ 8) (h3 : b3 ≤ 8) (h4 : b4 ≤ 8) (h5 : b5 ≤ 8) (h6 : b6 ≤ 8) (h7 : b7 ≤ 8)
   (hy : y = b0 + 256 * (b1 + 256 * (b2 + 256 * (b3 + 256 * (b4 + 256 * (b5 + 256 * (b6 + 256 * b7)))))))
   (hz : z = y + y / 256) (hu : u = z + z / 65536) : (u + u / 4294967296) % 128 = b0 + (b1 + (b2 + (b3 + (b4 + (b5 + (b6 + b7)))))) := by
  have e1 : y / 256 = b1 + 256 * (b2 + 256 * (b3 + 256 * (b4 + 256 * (b5 + 256 * (b6 + 256 * b7))))) := by
    rw [hy, div_step _ _ _ (by omega)]
  have e2 : z = ((b0 + b1) + 256 * (b1 + b2)) + 65536 * ((b2 + b3) + 256 * ((b3 + b4) + 256 * ((b4 + b5) + 256 * ((b5 + b6) + 256 * ((b6 + b7) + 256 * b7))))) := by
    rw [hz, e1, hy]; clear hz e1 hy hu; omega
  have e3 : z / 65536 = (b2 + b3) + 256 * ((b3 + b4) + 256 * ((b4 + b5) + 256 * ((b5 + b6) + 256 * ((b6 + b7) + 256 * b7)))) := by
    rw [e2, div_step _ _ _ (by omega)]
  have e4 : u = ((b0 + b1 + b2 + b3) + 256 * ((b1 + b2 + b3 + b4) + 256 * ((b2 + b3 + b4 + b5) + 256 * (b3 + b4 + b5 + b6)))) + 4294967296 * ((b4 + b5 + b6 + b7) + 256 * ((b5 + b6 + b7) + 256 * ((b6 + b7) + 256 * b7))) := by
    rw [hu, e3, e2]; clear hu e3 e2 hz e1 hy; omega
  have e5 : u / 4294967296 = (b4 + b5 + b6 + b7) + 256 * ((b5 + b6 + b7) + 256 * ((b6 + b7) + 256 * b7)) := by
    rw [e4, div_step _ _ _ (by omega)]
  rw [e5, e4]
  clear e5 e4 e3 e2 e1 hz hu hy
  obtain ⟨q, hq⟩ : ∃ q, (b0 + b1 + b2 + b3) + 256 * ((b1 + b2 + b3 + b4) + 256 * ((b2 + b3 + b4 + b5) + 256 * (b3 + b4 + b5 + b6))) + 4294967296 * ((b4 + b5 + b6 + b7) + 256 * ((b5 + b6 + b7) + 256 * ((b6 + b7) + 256 * b7))) + ((b4 + b5 + b6 + b7) + 256 * ((b5 + b6 + b7) + 256 * ((b6 + b7) + 256 * b7))) = (b0 + (b1 + (b2 + (b3 + (b4 + (b5 + (b6 + b7))))))) + 128 * q :=
    ⟨2 * ((b1 + b2 + b3 + b4) + 256 * ((b2 + b3 + b4 + b5) + 256 * (b3 + b4 + b5 + b6))) + 33554432 * ((b4 + b5 + b6 + b7) + 256 * ((b5 + b6 + b7) + 256 * ((b6 + b7) + 256 * b7))) + 2 * ((b5 + b6 + b7) + 256 * ((b6 + b7) + 256 * b7)), by omega⟩
  rw [hq, Nat.add_mul_mod_self_left]
  exact Nat.mod_eq_of_lt (by omega)

theorem val8_le (k a0 a1 a2 a3 a4 a5 a6 a7 : Nat) (h : a0 ≤ k ∧ a1 ≤ k ∧ a2 ≤ k ∧ a3 ≤ k ∧ a4 ≤ k ∧ a5 ≤ k ∧ a6 ≤ k ∧ a7 ≤ k) : val [a0, a1, a2, a3, a4, a5, a6, a7] ≤ k * 72340172838076673 := by
  simp only [val]; omega
def cntY (x : Nat) : Nat := f3 (f2 (f1 x 6148914691236517205) 3689348814741910323) 1085102592571150095
def cntZ (x : Nat) : Nat := cntY x + cntY x / 256
def cntU (x : Nat) : Nat := cntZ x + cntZ x / 65536
/-- How many squares there are, as the library reckons it. -/
theorem count_lib (x : Nat) (hx : x < W64) :
    f1 x 6148914691236517205 ≤ 255 * 72340172838076673 ∧ f2 (f1 x 6148914691236517205) 3689348814741910323 ≤ 68 * 72340172838076673 ∧ cntY x ≤ 8 * 72340172838076673 ∧
      (cntU x + cntU x / 4294967296) % 128 = (listN x).length := by
  have hb := bytesOf_lt hx
  have m1 : (6148914691236517205 : Nat) = val ((bytesOf x).map fun _ => 85) := by simp [bytesOf, val]
  have m2 : (3689348814741910323 : Nat) = val ((bytesOf x).map fun _ => 51) := by simp [bytesOf, val]
  have m3 : (1085102592571150095 : Nat) = val ((bytesOf x).map fun _ => 15) := by simp [bytesOf, val]
  have l1 : f1 x 6148914691236517205 = val ((bytesOf x).map g1) := by
    have := lay1 _ hb
    rwa [← m1, val_bytesOf] at this
  have l2 : f2 (f1 x 6148914691236517205) 3689348814741910323 = val ((bytesOf x).map g2) := by
    have := lay2 _ hb
    rwa [← m2, ← l1] at this
  have l3 : cntY x = val ((bytesOf x).map g3) := by
    have := lay3 _ hb
    rwa [← m3, ← l2] at this
  have hp : (listN x).length = ((bytesOf x).map (popN 8)).sum := by
    rw [listN, listTo_pop, ← popN_val _ hb, val_bytesOf]; rfl
  have c : ∀ a ∈ bytesOf x, g1 a ≤ 255 ∧ g2 a ≤ 68 ∧ g3 a = popN 8 a ∧ g3 a ≤ 8 := fun a ha => by
    have := bytes_ok a (hb a ha); exact ⟨by omega, by omega, this.2.2.2.1, this.2.2.2.2⟩
  rw [l2, l1, hp]
  clear l1 l2 m1 m2 m3 hp hb hx
  unfold bytesOf at *
  have c0 := c _ (.head _)
  have c1 := c _ (.tail _ (.head _))
  have c2 := c _ (.tail _ (.tail _ (.head _)))
  have c3 := c _ (.tail _ (.tail _ (.tail _ (.head _))))
  have c4 := c _ (.tail _ (.tail _ (.tail _ (.tail _ (.head _)))))
  have c5 := c _ (.tail _ (.tail _ (.tail _ (.tail _ (.tail _ (.head _))))))
  have c6 := c _ (.tail _ (.tail _ (.tail _ (.tail _ (.tail _ (.tail _ (.head _)))))))
  have c7 := c _ (.tail _ (.tail _ (.tail _ (.tail _ (.tail _ (.tail _ (.tail _ (.head _))))))))
  clear c
  generalize x % 256 = a0 at *
  generalize x / 256 % 256 = a1 at *
  generalize x / 65536 % 256 = a2 at *
  generalize x / 16777216 % 256 = a3 at *
  generalize x / 4294967296 % 256 = a4 at *
  generalize x / 1099511627776 % 256 = a5 at *
  generalize x / 281474976710656 % 256 = a6 at *
  generalize x / 72057594037927936 = a7 at *
  refine ⟨val8_le _ _ _ _ _ _ _ _ _ ⟨c0.1, c1.1, c2.1, c3.1, c4.1, c5.1, c6.1, c7.1⟩, val8_le _ _ _ _ _ _ _ _ _ ⟨c0.2.1, c1.2.1, c2.2.1, c3.2.1, c4.2.1, c5.2.1, c6.2.1, c7.2.1⟩,
    l3 ▸ val8_le _ _ _ _ _ _ _ _ _ ⟨c0.2.2.2, c1.2.2.2, c2.2.2.2, c3.2.2.2, c4.2.2.2, c5.2.2.2, c6.2.2.2, c7.2.2.2⟩, ?_⟩
  have hs := fold_sum _ _ _ _ _ _ _ _ (cntY x) (cntZ x) (cntU x) c0.2.2.2 c1.2.2.2 c2.2.2.2 c3.2.2.2 c4.2.2.2 c5.2.2.2 c6.2.2.2 c7.2.2.2 l3 rfl rfl
  rw [hs, c0.2.2.1, c1.2.2.1, c2.2.2.1, c3.2.2.1, c4.2.2.1, c5.2.2.1, c6.2.2.1, c7.2.2.1]
  rfl

/-! The ranks turned about, as the library reckons it. -/
theorem m8_bits : ∀ i, i < 64 → (71777214294589695 : Nat).testBit i = decide (i % 16 < 8) := by decide
theorem m16_bits : ∀ i, i < 64 → (281470681808895 : Nat).testBit i = decide (i % 32 < 16) := by decide
def swapB (x m k : Nat) : Nat := (x / 2 ^ k &&& m) ||| ((x &&& m) * 2 ^ k % W64)
theorem swapB_lt {x m : Nat} (hm : m < W64) (k : Nat) : swapB x m k < W64 :=
  Nat.or_lt_two_pow (n := 64) (Nat.and_lt_two_pow (n := 64) _ hm) (Nat.mod_lt _ (by decide))
theorem swapB_testBit (x m k j : Nat) (hm : ∀ i, i < 64 → m.testBit i = decide (i % (2 * k) < k)) (hk : k = 8 ∧ j = 16 ∨ k = 16 ∧ j = 32) (i : Nat) (hi : i < 64) :
    (swapB x m k).testBit i = x.testBit (if i % j < k then i + k else i - k) := by
  rw [swapB, Nat.testBit_or, Nat.testBit_and, ← Nat.shiftRight_eq_div_pow, Nat.testBit_shiftRight, W64_eq, Nat.testBit_mod_two_pow, ← Nat.shiftLeft_eq, Nat.testBit_shiftLeft, Nat.testBit_and, decide_eq_true hi, Bool.true_and, hm i hi]
  have ej : 2 * k = j := by omega
  by_cases h : i % j < k
  · rw [if_pos h, ej, decide_eq_true h, Bool.and_true, Nat.add_comm k i]
    by_cases h2 : k ≤ i
    · rw [hm (i - k) (by omega), ej]
      have : ¬ ((i - k) % j < k) := by rcases hk with ⟨rfl, rfl⟩ | ⟨rfl, rfl⟩ <;> omega
      simp [this]
    · simp [h2]
  · have h2 : k ≤ i := by rcases hk with ⟨rfl, rfl⟩ | ⟨rfl, rfl⟩ <;> omega
    have h3 : (i - k) % j < k := by rcases hk with ⟨rfl, rfl⟩ | ⟨rfl, rfl⟩ <;> omega
    rw [if_neg h, ej, hm (i - k) (by omega), ej]
    simp [h, h2, h3]
def swap32 (x : Nat) : Nat := (x / 2 ^ 32) ||| (x * 2 ^ 32 % W64)
theorem swap32_lt {x : Nat} (hx : x < W64) : swap32 x < W64 :=
  Nat.or_lt_two_pow (n := 64) (Nat.lt_of_le_of_lt (Nat.div_le_self _ _) hx) (Nat.mod_lt _ (by decide))
theorem swap32_testBit (x : Nat) (hx : x < W64) (i : Nat) (hi : i < 64) : (swap32 x).testBit i = x.testBit (if i < 32 then i + 32 else i - 32) := by
  rw [swap32, Nat.testBit_or, ← Nat.shiftRight_eq_div_pow, Nat.testBit_shiftRight, W64_eq, Nat.testBit_mod_two_pow, ← Nat.shiftLeft_eq, Nat.testBit_shiftLeft, decide_eq_true hi, Bool.true_and]
  by_cases h : i < 32
  · rw [if_pos h, Nat.add_comm]; simp; omega
  · rw [if_neg h, testBit_high hx (by omega)]; simp; omega
theorem flip_lib (x : Nat) : swap32 (swapB (swapB x 71777214294589695 8) 281470681808895 16) = flipN x := by
  have h2 : swapB (swapB x 71777214294589695 8) 281470681808895 16 < W64 := swapB_lt (by decide) 16
  apply eq_of_bits (swap32_lt h2) (flipN_lt x)
  intro i hi
  have hi2 : (if i < 32 then i + 32 else i - 32) < 64 := by split <;> omega
  rw [swap32_testBit _ h2 i hi, swapB_testBit _ _ 16 32 m16_bits (.inr ⟨rfl, rfl⟩) _ hi2]
  generalize he2 : (if i < 32 then i + 32 else i - 32) = i2 at *
  have hi3 : (if i2 % 32 < 16 then i2 + 16 else i2 - 16) < 64 := by split <;> omega
  rw [swapB_testBit _ _ 8 16 m8_bits (.inl ⟨rfl, rfl⟩) _ hi3, flipN_testBit x i hi]
  generalize he3 : (if i2 % 32 < 16 then i2 + 16 else i2 - 16) = i3 at *
  congr 1
  unfold flipS
  split at he2 <;> split at he3 <;> split <;> omega

end Go.Proofs.YtjbfjohgfbipgaaGreatDoor
/-
  Contracts of math/bits.OnesCount64, ReverseBytes64, TrailingZeros64, and of the program's Count, First, Flip, edge, Shift.
-/
namespace Go.Proofs.YtjbfjohgfbipgaaGreatDoor
open Go.RowKit

theorem div_nat (a k : Nat) : ((a : Int) / (k : Int)) = ((a / k : Nat) : Int) := by simp
theorem wrap_add {a b : Nat} (h : a + b < W64) : IntKind.u64.wrap ((a : Int) + (b : Int)) = ((a + b : Nat) : Int) := by
  rw [← wrap_nat _ h]; simp
theorem wrap_mul (a k : Nat) : IntKind.u64.wrap ((a : Int) * (k : Int)) = ((a * k % W64 : Nat) : Int) := by
  rw [IntKind.wrap_u64, Int.natCast_emod, Int.natCast_mul]; rfl
theorem half_lt {a : Nat} (k : Nat) (h : a < W64) : a / k < W64 := Nat.lt_of_le_of_lt (Nat.div_le_self _ _) h

theorem ones1 (b : Nat) (hb : b < W64) : IntKind.u64.wrap (bits .and .u64 ((b : Int) / 2) 6148914691236517205 + bits .and .u64 (b : Int) 6148914691236517205) = ((f1 b 6148914691236517205 : Nat) : Int) := by
  have h := (count_lib b hb).1
  have e1 := and_nat (a := b / 2) (b := 6148914691236517205) (half_lt 2 hb) (by decide)
  have e2 := and_nat (a := b) (b := 6148914691236517205) hb (by decide)
  rw [← div_nat] at e1
  have e3 := wrap_add (a := b / 2 &&& 6148914691236517205) (b := b &&& 6148914691236517205) (by unfold f1 at h; unfold W64; omega)
  rw [← e1, ← e2] at e3
  exact e3
theorem ones2 (b : Nat) (hb : b < W64) : IntKind.u64.wrap (bits .and .u64 (((f1 b 6148914691236517205 : Nat) : Int) / 4) 3689348814741910323 + bits .and .u64 ((f1 b 6148914691236517205 : Nat) : Int) 3689348814741910323) = ((f2 (f1 b 6148914691236517205) 3689348814741910323 : Nat) : Int) := by
  have h0 := (count_lib b hb).1
  have h := (count_lib b hb).2.1
  generalize f1 b 6148914691236517205 = c at *
  have hc : c < W64 := by unfold W64; omega
  have e1 := and_nat (a := c / 4) (b := 3689348814741910323) (half_lt 4 hc) (by decide)
  have e2 := and_nat (a := c) (b := 3689348814741910323) hc (by decide)
  rw [← div_nat] at e1
  have e3 := wrap_add (a := c / 4 &&& 3689348814741910323) (b := c &&& 3689348814741910323) (by unfold f2 at h; unfold W64; omega)
  rw [← e1, ← e2] at e3
  exact e3
theorem ones3 (b : Nat) (hb : b < W64) : bits .and .u64 (IntKind.u64.wrap (((f2 (f1 b 6148914691236517205) 3689348814741910323 : Nat) : Int) / 16 + ((f2 (f1 b 6148914691236517205) 3689348814741910323 : Nat) : Int))) 1085102592571150095 = ((cntY b : Nat) : Int) := by
  have h := (count_lib b hb).2.1
  unfold cntY
  generalize f2 (f1 b 6148914691236517205) 3689348814741910323 = c at *
  have hc : c / 16 + c < W64 := by unfold W64; omega
  have e1 := wrap_add (a := c / 16) (b := c) hc
  rw [← div_nat] at e1
  have e2 := and_nat (a := c / 16 + c) (b := 1085102592571150095) hc (by decide)
  rw [← e1] at e2
  exact e2
theorem ones4 (b : Nat) (hb : b < W64) : IntKind.u64.wrap (((cntY b : Nat) : Int) + ((cntY b : Nat) : Int) / 256) = ((cntZ b : Nat) : Int) := by
  have h := (count_lib b hb).2.2.1
  have e1 := wrap_add (a := cntY b) (b := cntY b / 256) (by unfold W64; omega)
  rw [← div_nat] at e1
  exact e1
theorem ones5 (b : Nat) (hb : b < W64) : IntKind.u64.wrap (((cntZ b : Nat) : Int) + ((cntZ b : Nat) : Int) / 65536) = ((cntU b : Nat) : Int) := by
  have h := (count_lib b hb).2.2.1
  have hz : cntZ b = cntY b + cntY b / 256 := rfl
  have e1 := wrap_add (a := cntZ b) (b := cntZ b / 65536) (by unfold W64; omega)
  rw [← div_nat] at e1
  exact e1
def cntV (b : Nat) : Nat := cntU b + cntU b / 4294967296
theorem cntV_lt (b : Nat) (hb : b < W64) : cntV b ≤ 9223372036854775807 := by
  have h := (count_lib b hb).2.2.1
  have hz : cntZ b = cntY b + cntY b / 256 := rfl
  have hu : cntU b = cntZ b + cntZ b / 65536 := rfl
  have hv : cntV b = cntU b + cntU b / 4294967296 := rfl
  omega
theorem ones6 (b : Nat) (hb : b < W64) : IntKind.u64.wrap (((cntU b : Nat) : Int) + ((cntU b : Nat) : Int) / 4294967296) = ((cntV b : Nat) : Int) := by
  have h := cntV_lt b hb
  have e1 := wrap_add (a := cntU b) (b := cntU b / 4294967296) (by unfold cntV at h; unfold W64; omega)
  rw [← div_nat] at e1
  exact e1

theorem ones7 (b : Nat) (hb : b < W64) : bits .and .i64 (wrap64 ((cntV b : Nat) : Int)) 127 = (((listN b).length : Nat) : Int) := by
  have h := cntV_lt b hb
  have e : wrap64 ((cntV b : Nat) : Int) = ((cntV b : Nat) : Int) := IntWalk.wrap64_in _ ⟨by omega, by omega⟩
  have hw : ∀ n : Int, 0 ≤ n → n < 2 ^ 63 → IntKind.i64.wrap n = n := fun n h0 h1 => by rw [IntKind.wrap_i64]; omega
  rw [e]
  have h2 := bits_mask .i64 63 (by decide) hw 7 (by decide) ((cntV b : Nat) : Int) (by omega) (by omega)
  have h3 := (count_lib b hb).2.2.2
  refine h2.trans ?_
  rw [← h3]
  show ((cntV b : Nat) : Int) % 128 = _
  unfold cntV
  omega

theorem rev_step {b : Nat} (m k : Nat) (hb : b < W64) (hm : m < W64) :
    bits .or .u64 (bits .and .u64 ((b : Int) / ((2 ^ k : Nat) : Int)) (m : Int)) (IntKind.u64.wrap (bits .and .u64 (b : Int) (m : Int) * ((2 ^ k : Nat) : Int))) = ((swapB b m k : Nat) : Int) := by
  rw [div_nat, and_nat (half_lt _ hb) hm, and_nat hb hm, wrap_mul, or_nat (Nat.and_lt_two_pow (n := 64) _ hm) (Nat.mod_lt _ (by decide))]
  rfl
theorem rev1 (b : Nat) (hb : b < W64) : bits .or .u64 (bits .and .u64 ((b : Int) / 256) 71777214294589695) (IntKind.u64.wrap (bits .and .u64 (b : Int) 71777214294589695 * 256)) = ((swapB b 71777214294589695 8 : Nat) : Int) :=
  rev_step 71777214294589695 8 hb (by decide)
theorem rev2 (b : Nat) (hb : b < W64) : bits .or .u64 (bits .and .u64 ((b : Int) / 65536) 281470681808895) (IntKind.u64.wrap (bits .and .u64 (b : Int) 281470681808895 * 65536)) = ((swapB b 281470681808895 16 : Nat) : Int) :=
  rev_step 281470681808895 16 hb (by decide)
theorem rev3 (b : Nat) (hb : b < W64) : bits .or .u64 ((b : Int) / 4294967296) (IntKind.u64.wrap ((b : Int) * 4294967296)) = ((swap32 b : Nat) : Int) := by
  have e1 := div_nat b (2 ^ 32)
  have e2 := wrap_mul b (2 ^ 32)
  have e3 := or_nat (a := b / 2 ^ 32) (b := b * 2 ^ 32 % W64) (half_lt _ hb) (Nat.mod_lt _ (by decide))
  rw [← e1, ← e2] at e3
  exact e3
theorem rev_any (b : Nat) (w : World) (hb : b < W64) :
    Calls Tryz.prog 45 #[.int .u64 (b : Int)] w fun e w' => e = .returned (.int .u64 (flipN b : Nat)) ∧ w = w' := by
  have HB := Lib.hid hb
  clear hb
  go_enter Tryz.func45, Tryz.ntmps45
  go_wp2
  go_ret
  refine ⟨ret_int ?_, rfl⟩
  rw [rev1 b HB.out, rev2 _ (swapB_lt (by decide) 8), rev3 _ (swapB_lt (by decide) 16), flip_lib]

theorem flip_any (b : Nat) (w : World) (hb : b < W64) :
    Calls Tryz.prog 19 #[.int .u64 (b : Int)] w fun e w' => e = .returned (.int .u64 (flipN b : Nat)) ∧ w = w' := by
  have HB := Lib.hid hb
  clear hb
  go_enter Tryz.func19, Tryz.ntmps19
  go_wp2_with (go_at_call 45; refine (rev_any _ _ HB.out).mono ?_; rintro e w' ⟨rfl, rfl⟩)
  go_ret
  exact ⟨rfl, rfl⟩

/-! The least square. -/
def dbTab : List Int := [0, 1, 56, 2, 57, 49, 28, 3, 61, 58, 42, 50, 38, 29, 17, 4, 62, 47, 59, 36, 45, 43, 51, 22, 53, 39, 33, 30, 24, 18, 12, 5, 63, 55, 48, 27, 60, 41, 37, 16, 46, 35, 44, 21, 52, 32, 23, 11, 54, 26, 40, 15, 34, 20, 31, 10, 25, 14, 19, 9, 13, 8, 7, 6]
/-- The library's table lies in its variable. -/
def TabDb (w : World) : Prop := ∀ j, j < 64 → w.cell? ⟨1, j, none⟩ = some (.int .u8 (dbTab.getD j 0))
theorem dbTab_eq : ∀ j, j < 64 → dbTab.getD j 0 = ((Lib.deBruijn64tab.getD j 0 : Nat) : Int) := by decide
theorem tz_core (x k idx : Nat) (w : World) (hx0 : ((x : Int) == 0) = false)
    (key : IntKind.u64.wrap (bits BinOp.and IntKind.u64 (x : Int) (IntKind.u64.wrap (-(x : Int))) * 285870213051353865) / 288230376151711744 = (idx : Int))
    (hi : idx < 64) (hk : k < 64) (hcell : w.cell? ⟨1, idx, none⟩ = some (.int .u8 k)) :
    Calls Tryz.prog 74 #[.int .u64 x] w fun e w' => e = .returned (.int .i64 k) ∧ w = w' := by
  go_enter Tryz.func74, Tryz.ntmps74
  go_wp2_with (simp only [key])
  go_ret
  exact ⟨rfl, rfl⟩
theorem tz_key (x a : Nat) (hx : x < W64) (hx0 : x ≠ 0) (hlow : x &&& (18446744073709551616 - x) = a) :
    IntKind.u64.wrap (bits BinOp.and IntKind.u64 (x : Int) (IntKind.u64.wrap (-(x : Int))) * 285870213051353865) / 288230376151711744 = ((a * 285870213051353865 % 18446744073709551616 / 288230376151711744 : Nat) : Int) := by
  unfold W64 at hx
  have e1 : IntKind.u64.wrap (-(x : Int)) = ((18446744073709551616 - x : Nat) : Int) := by rw [IntKind.wrap_u64]; omega
  rw [e1, bits_and_u64_nat x _ hx (by omega), hlow, IntKind.wrap_u64]
  omega
theorem tz_any (x : Nat) (w : World) (hx : x < W64) (hx0 : x ≠ 0) (hT : TabDb w) :
    Calls Tryz.prog 74 #[.int .u64 x] w fun e w' => e = .returned (.int .i64 (Lib.ctz 64 x : Nat)) ∧ w = w' := by
  obtain ⟨hlow, hk⟩ := Lib.lowest_bit 64 x hx0 hx
  obtain ⟨hi, htab⟩ := Lib.deBruijn64_at _ hk
  have hcell := hT _ (by simpa using hi)
  rw [dbTab_eq _ (by simpa using hi), htab] at hcell
  exact tz_core x _ _ w (by simp; omega) (tz_key x _ hx hx0 hlow) hi hk hcell
def firstN (b : Nat) : Int := match listN b with | [] => -1 | s :: _ => (s : Int)
theorem filter_least (p : Nat → Bool) (c : Nat) : ∀ l : List Nat, l.Pairwise (· < ·) → c ∈ l → p c = true → (∀ x ∈ l, x < c → p x = false) → l.filter p = c :: l.filter fun x => p x && decide (x ≠ c)
  | [], _, h, _, _ => by cases h
  | a :: l, hp, hc, h1, h2 => by
    rw [List.pairwise_cons] at hp
    by_cases e : a = c
    · subst e
      have : ∀ x ∈ l, p x = (p x && decide (x ≠ a)) := fun x hx => by
        have h := hp.1 x hx
        have hne : x ≠ a := by omega
        simp [hne]
      rw [List.filter_cons_of_pos h1, List.filter_cons_of_neg (by simp), List.filter_congr this]
    · have hcl : c ∈ l := by simpa [Ne.symm e] using hc
      have ha : p a = false := h2 a (by simp) (hp.1 c hcl)
      rw [List.filter_cons_of_neg (by simp [ha]), List.filter_cons_of_neg (by simp [ha])]
      exact filter_least p c l hp.2 hcl h1 (fun x hx => h2 x (by simp [hx]))
/-- The set without its least square. -/
def restN (b : Nat) : Nat := b &&& (b - 1)
theorem restN_lt {b : Nat} (hb : b < W64) : restN b < W64 := Nat.and_lt_two_pow (n := 64) _ (Nat.lt_of_le_of_lt (Nat.sub_le _ _) hb)
theorem low_bits (c m i : Nat) : (2 ^ c * (2 * m + 1)).testBit i = (decide (c ≤ i) && (decide (i = c) || m.testBit (i - c - 1))) := by
  rw [Nat.mul_comm, ← Nat.shiftLeft_eq, Nat.testBit_shiftLeft]
  by_cases h : c ≤ i
  · by_cases h2 : i = c
    · subst h2; simp
    · obtain ⟨j, rfl⟩ : ∃ j, i = c + 1 + j := ⟨i - c - 1, by omega⟩
      have e : c + 1 + j - c = j + 1 := by omega
      have e2 : (2 * m + 1) / 2 = m := by omega
      rw [e, Nat.testBit_succ, e2]; simp [h2]
  · simp [h]
theorem low_pred (c m i : Nat) : (2 ^ c * (2 * m + 1) - 1).testBit i = if i < c then true else decide (i ≠ c) && m.testBit (i - c - 1) := by
  have hp : 0 < 2 ^ c := Nat.two_pow_pos c
  have e : 2 ^ c * (2 * m + 1) - 1 = 2 ^ c * (2 * m) + (2 ^ c - 1) := by rw [Nat.mul_add]; omega
  rw [e, Nat.testBit_two_pow_mul_add _ (by omega)]
  split
  · rename_i h; rw [Nat.testBit_two_pow_sub_one, decide_eq_true h]
  · rename_i h
    by_cases h2 : i = c
    · subst h2; simp
    · obtain ⟨j, rfl⟩ : ∃ j, i = c + 1 + j := ⟨i - c - 1, by omega⟩
      have e : c + 1 + j - c = j + 1 := by omega
      have e2 : 2 * m / 2 = m := by omega
      rw [e, Nat.testBit_succ, e2]; simp [h2]
theorem ctz_spec (b : Nat) (hb : b < W64) (h0 : b ≠ 0) : ∃ m, b = 2 ^ Lib.ctz 64 b * (2 * m + 1) ∧ Lib.ctz 64 b < 64 := by
  obtain ⟨m, h1, h2⟩ := Lib.ctzFrom_spec 64 b (by omega) hb
  have e : Lib.ctz 64 b = Lib.ctzFrom 64 b := by simp [Lib.ctz, h0]
  rw [e]; exact ⟨m, h1, h2⟩
theorem listN_rest (b : Nat) (hb : b < W64) (h0 : b ≠ 0) : listN b = Lib.ctz 64 b :: listN (restN b) := by
  obtain ⟨m, h1, h2⟩ := ctz_spec b hb h0
  generalize Lib.ctz 64 b = c at *
  have t1 : ∀ i, b.testBit i = (decide (c ≤ i) && (decide (i = c) || m.testBit (i - c - 1))) := fun i => by rw [h1, low_bits]
  have t3 : ∀ i, (b - 1).testBit i = if i < c then true else decide (i ≠ c) && m.testBit (i - c - 1) := fun i => by rw [h1]; exact low_pred c m i
  have t2 : ∀ i, (restN b).testBit i = (b.testBit i && decide (i ≠ c)) := fun i => by
    rw [restN, Nat.testBit_and]
    rw [t3, t1]
    by_cases a1 : c ≤ i
    · by_cases a2 : i = c
      · subst a2; simp
      · have : ¬ i < c := by omega
        simp [a1, a2, this]
    · simp [a1]
  have := filter_least (fun x => b.testBit x) c (List.range 64) List.pairwise_lt_range (by simpa using h2) (by simp [t1]) (fun x _ hx => by simp [t1]; omega)
  unfold listN listTo
  rw [this]
  congr 1
  apply List.filter_congr
  intro x _
  rw [t2]
theorem listN_zero : listN 0 = [] := by decide
theorem firstN_zero : firstN 0 = -1 := by simp [firstN, listN_zero]
theorem firstN_ctz (b : Nat) (hb : b < W64) (h0 : b ≠ 0) : firstN b = (Lib.ctz 64 b : Nat) := by rw [firstN, listN_rest b hb h0]
theorem first_any (b : Nat) (w : World) (hb : b < W64) (hT : TabDb w) :
    Calls Tryz.prog 43 #[.int .u64 (b : Int)] w fun e w' => e = .returned (.int .i64 (firstN b)) ∧ w = w' := by
  have HT := Lib.hid hT
  by_cases h0 : b = 0
  · subst h0
    clear hb hT
    go_enter Tryz.func43, Tryz.ntmps43
    go_wp2
    go_ret
    exact ⟨ret_int firstN_zero.symm, rfl⟩
  · have HF := Lib.hid (firstN_ctz b hb h0)
    have H0 := Lib.hid h0
    have HB := Lib.hid hb
    have hne : ((b : Int) == 0) = false := by simp; omega
    clear hb hT h0
    go_enter Tryz.func43, Tryz.ntmps43
    go_wp2_with (go_at_call 74; refine (tz_any _ _ HB.out H0.out HT.out).mono ?_; rintro e w' ⟨rfl, rfl⟩)
    go_ret
    exact ⟨ret_int HF.out.symm, rfl⟩

/-! Steps. -/
end Go.Proofs.YtjbfjohgfbipgaaGreatDoor
/-
  Contracts of the program's Of, All, Find, Count.
-/
namespace Go.Proofs.YtjbfjohgfbipgaaGreatDoor
open Go.RowKit
set_option linter.unusedVariables false

def ofN (p : Nat → Int) (c k : Int) : Nat := setN (ofB c k) p
def occN (p : Nat → Int) : Nat := setN pcB p
theorem ofN_lt (p : Nat → Int) (c k : Int) : ofN p c k < W64 := setN_lt _ _
theorem occN_lt (p : Nat → Int) : occN p < W64 := setN_lt _ _
theorem ofN_testBit (p : Nat → Int) (c k : Int) (i : Nat) (hi : i < 64) : (ofN p c k).testBit i = ofB c k (p (1 + i)) := setN_testBit _ _ i hi
theorem occN_testBit (p : Nat → Int) (i : Nat) (hi : i < 64) : (occN p).testBit i = pcB (p (1 + i)) := setN_testBit _ _ i hi
theorem size_new (w : World) (o : Obj) : (w.alloc o).heap.size = w.heap.size + 1 := by show (w.heap.push o).size = _; simp
theorem cell_new (w : World) (v : Value) (t : TypeId) : (w.alloc (.cells #[v] t)).cell? ⟨w.heap.size, 0, none⟩ = some v := by
  rw [cell_of_row _ _ _ _ _ _ (heap_alloc_new w _)]; rfl
theorem cell_mid (w : World) (o o2 : Obj) (v : Value) (t : TypeId) : (((w.alloc o).alloc (.cells #[v] t)).alloc o2).cell? ⟨w.heap.size + 1, 0, none⟩ = some v := by
  rw [(box_below _ o2).cell (by rw [size_new, size_new]; simp), ← size_new w o]; exact cell_new _ _ _
theorem cell_top (w : World) (o o2 : Obj) (v : Value) (t : TypeId) : (((w.alloc o).alloc o2).alloc (.cells #[v] t)).cell? ⟨w.heap.size + 1 + 1, 0, none⟩ = some v := by
  rw [← size_new w o, ← size_new _ o2]; exact cell_new _ _ _
theorem row_new (w : World) (p : Nat → Int) : Row (w.alloc (.cells (posA p) 31)) w.heap.size p := heap_alloc_new w _
theorem row_old {w : World} {b : Nat} {p : Nat → Int} (h : Row w b p) (o : Obj) : Row (w.alloc o) b p := h.later (box_below _ _)
theorem TabDb.on {w w' : World} (h : TabDb w) (hb : Below w.heap.size w w') : TabDb w' := fun j hj => (hb.cell (block_lt_of_cell (h j hj))).trans (h j hj)
end Go.Proofs.YtjbfjohgfbipgaaGreatDoor
/-
  Contracts of the program's and the document's Put.
-/
namespace Go.Proofs.YtjbfjohgfbipgaaGreatDoor
open Go.RowKit
set_option linter.unusedVariables false

def mayPut (x : Int) : Bool := (x == 0) || pcB x
def putB (s x : Int) : Bool := sq s && mayPut x
def putP (p : Nat → Int) (s x : Int) : Nat → Int := bif putB s x then upd p (1 + s.toNat) x else p
theorem putP_no {p : Nat → Int} {s x : Int} (h : putB s x = false) : putP p s x = p := by simp [putP, h]
theorem putP_yes {p : Nat → Int} {n : Nat} {x : Int} (h : putB (n : Int) x = true) : putP p (n : Int) x = upd p (1 + n) x := by simp [putP, h]
theorem results_pos {fn : Func} {i : Tmp} (h : fn.results = #[.cell i 31]) (tmps : Array Value) (w : World) (b : Nat) (p : Nat → Int) (hp : tmps.getD i undef = .pointer (some ⟨b, 0, none⟩)) (hr : Row w b p) :
    (results fn tmps).run Tryz.prog w = .ok (.agg (posA p)) w :=
  results_cell_row h tmps w b 31 (posA p) (0, 0) _ hp hr Tryz.underlying31 rfl (by rw [posA_size]; exact size31)
theorem New.row {b c : Nat} {w w' : World} {p : Nat → Int} (h : New b w w') (hr : Row w c p) : Row w' c p := hr.later h.below
theorem New.ne {b c : Nat} {w w' : World} {p : Nat → Int} (h : New b w w') (hr : Row w c p) : c ≠ b := by have := hr.lt; have := h.at_; omega

set_option maxRecDepth 100000 in
set_option maxHeartbeats 1000000 in
theorem put_pos (p : Nat → Int) (s x : Int) (w : World) (h0 : 0 ≤ x) (h1 : x ≤ 255) : Calls Tryz.prog 12 #[.agg (posA p), .int .i64 s, .int .u8 x] w (PosL (putP p s x) w) := by
  cases g0 : sq s
  · have HS := Lib.hid (putP_no (p := p) (show putB s x = false by simp [putB, g0]))
    go_enter Tryz.func12, Tryz.ntmps12
    go_wp2_with (first
      | (refine step_box rfl _ rfl p rfl ?_; intro b3 w3 N3 R3; have HN3 := Lib.hid N3; have HR3 := Lib.hid R3; clear N3 R3)
      | (refine step_alloc rfl rfl ?_; intro b6 w6 N6 R6; have HN6 := Lib.hid N6; have HR6 := Lib.hid R6; have HR3b := Lib.hid (N6.row HR3.out); have HD := Lib.hid (N6.ne HR3.out); have HB6 := Lib.hid (below_on HN3.out.below N6.below); have HG := Lib.hid (show w.heap.size ≤ b3 ∧ w.heap.size ≤ b6 by have := HN3.out.at_; have := N6.at_; have := HN3.out.size; omega); clear N6 R6))
    refine (isq_any _ _).mono ?_; rintro e w7 ⟨rfl, rfl⟩
    go_wp2_with (first
      | (refine step_load rfl _ rfl _ rfl p HR3b.out ?_)
      | (refine step_store rfl _ _ rfl _ rfl _ _ rfl HR6.out ?_; intro w8 U8 R8; have HU8 := Lib.hid U8; have HR8 := Lib.hid R8; clear U8 R8))
    refine bodyPost_ret (v := .agg (posA p)) (results_pos rfl _ _ _ _ rfl HR8.out) rfl ⟨by rw [HS.out], ?_⟩
    exact HB6.out.trans (HU8.out.below HG.out.2)
  · cases g1 : (x == 0)
    · cases g2 : pcB x
      · have HS := Lib.hid (putP_no (p := p) (show putB s x = false by simp [putB, mayPut, g1, g2]))
        go_enter Tryz.func12, Tryz.ntmps12
        go_wp2_with (first
          | (refine step_box rfl _ rfl p rfl ?_; intro b3 w3 N3 R3; have HN3 := Lib.hid N3; have HR3 := Lib.hid R3; clear N3 R3)
          | (refine step_alloc rfl rfl ?_; intro b6 w6 N6 R6; have HN6 := Lib.hid N6; have HR6 := Lib.hid R6; have HR3b := Lib.hid (N6.row HR3.out); have HD := Lib.hid (N6.ne HR3.out); have HB6 := Lib.hid (below_on HN3.out.below N6.below); have HG := Lib.hid (show w.heap.size ≤ b3 ∧ w.heap.size ≤ b6 by have := HN3.out.at_; have := N6.at_; have := HN3.out.size; omega); clear N6 R6))
        refine (isq_any _ _).mono ?_; rintro e w7 ⟨rfl, rfl⟩
        go_wp2_with fail
        refine (is_any _ _ h0 h1).mono ?_; rintro e w7 ⟨rfl, rfl⟩
        go_wp2_with (first
          | (refine step_load rfl _ rfl _ rfl p HR3b.out ?_)
          | (refine step_store rfl _ _ rfl _ rfl _ _ rfl HR6.out ?_; intro w8 U8 R8; have HU8 := Lib.hid U8; have HR8 := Lib.hid R8; clear U8 R8))
        refine bodyPost_ret (v := .agg (posA p)) (results_pos rfl _ _ _ _ rfl HR8.out) rfl ⟨by rw [HS.out], ?_⟩
        exact HB6.out.trans (HU8.out.below HG.out.2)
      · obtain ⟨n, rfl⟩ := Int.eq_ofNat_of_zero_le (sq_true.1 g0).1
        have hn : n < 64 := by have := (sq_true.1 g0).2; omega
        have HK := Lib.hid (kAt_board (Nat.zero_le _) hn)
        have HI := Lib.hid (show 1 + n < 88 by omega)
        have HS := Lib.hid (putP_yes (p := p) (show putB (n : Int) x = true by simp [putB, mayPut, g0, g2]))
        have g3 : (0 : Int) ≤ (n : Int) := by omega
        have g4 : (n : Int) < 64 := by omega
        go_enter Tryz.func12, Tryz.ntmps12
        go_wp2_with (first
          | (refine step_box rfl _ rfl p rfl ?_; intro b3 w3 N3 R3; have HN3 := Lib.hid N3; have HR3 := Lib.hid R3; clear N3 R3)
          | (refine step_alloc rfl rfl ?_; intro b6 w6 N6 R6; have HN6 := Lib.hid N6; have HR6 := Lib.hid R6; have HR3b := Lib.hid (N6.row HR3.out); have HD := Lib.hid (N6.ne HR3.out); have HB6 := Lib.hid (below_on HN3.out.below N6.below); have HG := Lib.hid (show w.heap.size ≤ b3 ∧ w.heap.size ≤ b6 by have := HN3.out.at_; have := N6.at_; have := HN3.out.size; omega); clear N6 R6))
        refine (isq_any _ _).mono ?_; rintro e w7 ⟨rfl, rfl⟩
        go_wp2_with fail
        refine (is_any _ _ h0 h1).mono ?_; rintro e w7 ⟨rfl, rfl⟩
        go_wp2_with (first
          | (refine step_cell rfl 5 _ _ rfl _ _ rfl _ _ rfl p HR3b.out HI.out HK.out size5 ?_; intro w9 U9 R9; have HU9 := Lib.hid U9; have HR9 := Lib.hid R9; have HR6b := Lib.hid (HR6.out.apart U9 (Ne.symm HD.out)); clear U9 R9)
          | (refine step_load rfl _ rfl _ rfl _ HR9.out ?_)
          | (refine step_store rfl _ _ rfl _ rfl _ _ rfl HR6b.out ?_; intro w8 U8 R8; have HU8 := Lib.hid U8; have HR8 := Lib.hid R8; clear U8 R8))
        refine bodyPost_ret (v := .agg (posA (upd p (1 + n) x))) (results_pos rfl _ _ _ _ rfl HR8.out) rfl ⟨by rw [HS.out], ?_⟩
        exact HB6.out.trans ((HU9.out.below HG.out.1).trans (HU8.out.below HG.out.2))
    · obtain ⟨n, rfl⟩ := Int.eq_ofNat_of_zero_le (sq_true.1 g0).1
      have hn : n < 64 := by have := (sq_true.1 g0).2; omega
      have HK := Lib.hid (kAt_board (Nat.zero_le _) hn)
      have HI := Lib.hid (show 1 + n < 88 by omega)
      have HS := Lib.hid (putP_yes (p := p) (show putB (n : Int) x = true by simp only [putB, mayPut, g0, g1]; rfl))
      have g3 : (0 : Int) ≤ (n : Int) := by omega
      have g4 : (n : Int) < 64 := by omega
      go_enter Tryz.func12, Tryz.ntmps12
      go_wp2_with (first
        | (refine step_box rfl _ rfl p rfl ?_; intro b3 w3 N3 R3; have HN3 := Lib.hid N3; have HR3 := Lib.hid R3; clear N3 R3)
        | (refine step_alloc rfl rfl ?_; intro b6 w6 N6 R6; have HN6 := Lib.hid N6; have HR6 := Lib.hid R6; have HR3b := Lib.hid (N6.row HR3.out); have HD := Lib.hid (N6.ne HR3.out); have HB6 := Lib.hid (below_on HN3.out.below N6.below); have HG := Lib.hid (show w.heap.size ≤ b3 ∧ w.heap.size ≤ b6 by have := HN3.out.at_; have := N6.at_; have := HN3.out.size; omega); clear N6 R6))
      refine (isq_any _ _).mono ?_; rintro e w7 ⟨rfl, rfl⟩
      go_wp2_with (first
        | (refine step_cell rfl 5 _ _ rfl _ _ rfl _ _ rfl p HR3b.out HI.out HK.out size5 ?_; intro w9 U9 R9; have HU9 := Lib.hid U9; have HR9 := Lib.hid R9; have HR6b := Lib.hid (HR6.out.apart U9 (Ne.symm HD.out)); clear U9 R9)
        | (refine step_load rfl _ rfl _ rfl _ HR9.out ?_)
        | (refine step_store rfl _ _ rfl _ rfl _ _ rfl HR6b.out ?_; intro w8 U8 R8; have HU8 := Lib.hid U8; have HR8 := Lib.hid R8; clear U8 R8))
      refine bodyPost_ret (v := .agg (posA (upd p (1 + n) x))) (results_pos rfl _ _ _ _ rfl HR8.out) rfl ⟨by rw [HS.out], ?_⟩
      exact HB6.out.trans ((HU9.out.below HG.out.1).trans (HU8.out.below HG.out.2))
end Go.Proofs.YtjbfjohgfbipgaaGreatDoor
/-
  Contracts of the document's own Put, Of.
-/
namespace Go.Proofs.YtjbfjohgfbipgaaGreatDoor
open Go.RowKit
set_option linter.unusedVariables false
end Go.Proofs.YtjbfjohgfbipgaaGreatDoor
/-
  The contract of the document's own Of.
-/
namespace Go.Proofs.YtjbfjohgfbipgaaGreatDoor
open Go.RowKit
set_option linter.unusedVariables false
theorem bne_of {a b : Int} {r : Bool} (h : (a == b) = r) : (a != b) = !r := by simp only [bne, h]
theorem at_n {p : Nat → Int} {k : Nat} (hk : k < 64) (h : pcB (p (1 + k)) = false) : atZ p (k : Int) = 0 := atZ_off (sq_true.2 ⟨by omega, by omega⟩) h
theorem at_y {p : Nat → Int} {k : Nat} (hk : k < 64) (h : pcB (p (1 + k)) = true) : atZ p (k : Int) = p (1 + k) := atZ_yes (sq_true.2 ⟨by omega, by omega⟩) h
theorem pcB_ne {n : Int} (h : pcB n = true) : (n != 0) = true := by rw [pcB_true] at h; simp; omega
end Go.Proofs.YtjbfjohgfbipgaaGreatDoor
/-
  A region that draws its order, whose operations only read and whose callees may make memory: one walk, over all worlds above the first one.
-/
namespace Go.Proofs.YtjbfjohgfbipgaaGreatDoor
open Go.RowKit
set_option linter.unusedVariables false

/-- A world above w. -/
structure Up (w : World) where
  val : World
  above : Below w.heap.size w val
instance (w : World) : Nonempty (Up w) := ⟨⟨w, Below.refl _ _⟩⟩
theorem wp_region_up {P : Program} {id : Nat} {Q : Exit → Act → World → Prop} {a : Act} {w : World} {l : List Oper} (hm : P.follows .mixedOrders = true) (hB : Region.lexB .any l.toArray = true)
    (h : wpQuiet P l.toArray (fun w' => ∃ x : Up w, w' = x.val) (fun a' => ∀ w', (∃ x : Up w, w' = x.val) → Q .normal a' w') l a) : (Code.region id l.toArray true).wp P Q a w :=
  wp_region_quiet (C := fun w' => ∃ x : Up w, w' = x.val) hm hB ⟨⟨_, (Below.refl _ w).drew⟩, rfl⟩ (by simpa using h)
theorem up_c {P : Program} {f : FuncId} {args : Array Value} {w : World} {x : Up w} {v : Value} (h : Calls P f args x.val (fun e w'' => e = .returned v ∧ Below x.val.heap.size x.val w'')) :
    Calls P f args x.val (fun e w'' => e = .returned v ∧ ∃ y : Up w, w'' = y.val) :=
  h.mono fun e w'' ⟨he, hb⟩ => ⟨he, ⟨w'', below_on x.above hb⟩, rfl⟩
theorem up_s {P : Program} {f : FuncId} {args : Array Value} {w : World} {x : Up w} {v : Value} (h : Calls P f args x.val (fun e w'' => e = .returned v ∧ x.val = w'')) :
    Calls P f args x.val (fun e w'' => e = .returned v ∧ ∃ y : Up w, w'' = y.val) :=
  h.mono fun e w'' ⟨he, hb⟩ => ⟨he, x, hb.symm⟩
theorem up_load {o : Oper} {a : Act} {w : World} {K : Act → Prop} (x : Operand) (ho : o.op = .load 31 x) (b : Nat) (hx : a.eval x = .pointer (some ⟨b, 0, none⟩)) (p : Nat → Int) (hr : Row w b p)
    (h : K (a.put o.dst (.agg (posA p)))) : o.quiet Tryz.prog a (fun w' => ∃ x : Up w, w' = x.val) K :=
  ⟨_, fun w' hw' => by
    obtain ⟨y, rfl⟩ := hw'
    have hl := run_loadVar_row y.val b 31 31 (posA p) (0, 0) _ (hr.later y.above) Tryz.underlying31 rfl (by rw [posA_size]; exact size31)
    unfold Oper.quietAt execOp
    simp only [ho, hx, Instr.loadAt, Instr.sureAddr, Sem.run_bind, Sem.run_pure, Result.andThen_ok, hl]
    exact ⟨rfl, rfl⟩, h⟩
end Go.Proofs.YtjbfjohgfbipgaaGreatDoor
/-
  The contract of the document's own Find.
-/
namespace Go.Proofs.YtjbfjohgfbipgaaGreatDoor
open Go.RowKit
set_option linter.unusedVariables false
theorem firstN_nil {b : Nat} (h : (listN b).length = 0) : firstN b = -1 := by
  unfold firstN
  rw [List.length_eq_zero_iff.1 h]
theorem firstN_get {b s : Nat} (h : (listN b)[0]? = some s) : firstN b = (s : Int) := by
  unfold firstN
  cases e : listN b with
  | nil => rw [e] at h; cases h
  | cons a t => rw [e] at h; simp at h; rw [h]
end Go.Proofs.YtjbfjohgfbipgaaGreatDoor
/-
  Contracts of the document's own File, Rank, Of, apart, Distance, Flip (layer 2): each answers the plain function of XSqMath.
-/
namespace Go.Proofs.YtjbfjohgfbipgaaGreatDoor
open Go.RowKit

end Go.Proofs.YtjbfjohgfbipgaaGreatDoor
/-
  Contracts of the document's own layer 10, first part: number, right.
-/
namespace Go.Proofs.YtjbfjohgfbipgaaGreatDoor
open Go.RowKit
set_option linter.unusedVariables false

theorem conv1 (w : World) (x : Int) : (convert 53 9 (.slice (some ⟨w.heap.size, 0, none⟩) 1 1)).run Tryz.prog (w.alloc (.cells #[.int .u8 x] 5)) = .ok (.string (bz [byZ x])) (w.alloc (.cells #[.int .u8 x] 5)) := by
  rw [run_convert_bytes_string _ _ _ 5 _ _ _ Tryz.underlying53 Tryz.underlying5 Tryz.underlying9]
  rw [run_bytesToString _ _ _ _ [x] (by simp [loadCells, go_sem])]
  rfl
/-- A text's length, beside other short ones, is an int. -/
theorem cat_ok {a b : ByteArray} (ha : a.size ≤ 1000000) (hb : b.size ≤ 1000000) : ¬ (9223372036854775807 < a.size + b.size) := by omega
def emptyV (v : Value) : Nat := match v with | .string t => if t.toList.isEmpty then 1 else 0 | _ => 0
theorem emptyV_cons (x : UInt8) (l : List UInt8) : emptyV (.string (bz (x :: l))) = 0 := by
  show (if (bz (x :: l)).toList.isEmpty then 1 else 0) = 0
  rw [bz_toList]; rfl
theorem fn_str {a b : ByteArray} (h : a = b) : Ending.returned (.string a) = .returned (.string b) := by rw [h]
/-- Where the color's king is. -/
def kinF (p : Nat → Int) (c : Int) : Int := firstN (ofN p c 6)
/-- A file may be that of a rook of a color and a side. -/
def rightB (p : Nat → Int) (c d f : Int) : Bool := !(decide (f < 0) || decide (7 < f) || decide (kinF p c < 0) || (rankZ (kinF p c) != 7 * c)) && (bif d == 0 then decide (fileZ (kinF p c) < f) else decide (f < fileZ (kinF p c)))
theorem kinF_rng (p : Nat → Int) (c : Int) : -1 ≤ kinF p c ∧ kinF p c ≤ 63 := by
  unfold kinF firstN
  cases h : listN (ofN p c 6) with
  | nil => decide
  | cons a t =>
    have : a < 64 := (mem_listN.1 (show a ∈ listN (ofN p c 6) by rw [h]; simp)).1
    show -1 ≤ (a : Int) ∧ (a : Int) ≤ 63
    omega
end Go.Proofs.YtjbfjohgfbipgaaGreatDoor
