/-
  Several texts in one: CutMath, FpPrint, RdBase, RdLib, RdNum, FnLaid, RdTurn, RdLate, RdMath.
-/
import Derived.Test.YtjbfjohgfbipgaaGreatDoorFnBaseA
import Derived.Test.YtjbfjohgfbipgaaGreatDoorFpWr
import Derived.WalkLawsBesides
import Derived.Test.YtjbfjohgfbipgaaGreatDoorShelfB
import Derived.Test.YtjbfjohgfbipgaaGreatDoorFpBaseA
import Derived.Test.YtjbfjohgfbipgaaGreatDoorLaterD
import Derived.Test.YtjbfjohgfbipgaaGreatDoorFpBaseB
import Derived.Stop.LaidErr
/-
  A text cut at the first of such a byte. Plain.
-/
namespace Go.Proofs.YtjbfjohgfbipgaaGreatDoor
open Go.RowKit

/-- The text ahead of the first such byte; behind it. -/
def cutA (b : UInt8) : List UInt8 → List UInt8
  | [] => []
  | x :: l => bif b == x then [] else x :: cutA b l
def cutB (b : UInt8) : List UInt8 → List UInt8
  | [] => []
  | x :: l => bif b == x then l else cutB b l
theorem cutA_len (b : UInt8) : ∀ l, (cutA b l).length ≤ l.length
  | [] => Nat.le_refl _
  | x :: l => by unfold cutA; cases (b == x) <;> simp [cutA_len b l]
theorem cutB_len (b : UInt8) : ∀ l, (cutB b l).length ≤ l.length
  | [] => Nat.le_refl _
  | x :: l => by
    unfold cutB
    cases (b == x)
    · exact Nat.le_trans (cutB_len b l) (by simp)
    · show l.length ≤ l.length + 1; omega
end Go.Proofs.YtjbfjohgfbipgaaGreatDoor
/-
  Contract of the program's Print (layer 10).
-/
namespace Go.Proofs.YtjbfjohgfbipgaaGreatDoor
open Go.RowKit
set_option linter.unusedVariables false
set_option linter.unusedSimpArgs false

set_option maxRecDepth 100000 in
set_option maxHeartbeats 1000000 in
theorem print_any (p : Nat → Int) (w : World) (hp : FitF p) (hT : TabVar w) (hC : TabCorn w) (hPw : TabPow w) : Calls Tryz.prog 6 #[.agg (posA p)] w (StL (bz (fenL p)) w) := by
  have HP := Lib.hid hp
  have HT := Lib.hid hT
  have HC := Lib.hid hC
  have HPw := Lib.hid hPw
  obtain ⟨b, hb⟩ : ∃ b, wrB p = b := ⟨_, rfl⟩
  have HWb := Lib.hid hb
  clear hp hT hC hPw hb
  cases b
  · have HE := Lib.hid (show fenL p = [] by unfold fenL; rw [HWb.out]; rfl)
    go_enter Tryz.func6, Tryz.ntmps6
    go_wp2_with (first
      | (refine step_box rfl _ rfl p rfl ?_; intro b1 w1 N R; have HB := Lib.hid N.below; have HR := Lib.hid R; clear N R)
      | (refine step_load rfl _ rfl b1 rfl p HR.out ?_)
      | (go_at_call 15; refine (canBe_any p _ HP.out (HT.out.on HB.out)).mono ?_; rintro e w' ⟨rfl, hb9⟩; rw [HWb.out]; have HB := Lib.hid (below_on HB.out hb9); clear hb9))
    go_ret
    exact ⟨by rw [HE.out]; rfl, HB.out⟩
  · obtain ⟨t, ht⟩ : ∃ t, bz (fenT6 p) = t := ⟨_, rfl⟩
    have hsz : t.size = (fenT6 p).length := by rw [← ht, bz_size]
    have HTt := Lib.hid ht
    by_cases g0 : (fenT6 p).length ≤ 200
    · have HE := Lib.hid (show bz (fenL p) = t by unfold fenL; rw [HWb.out, decide_eq_true g0, ← ht]; rfl)
      have g1 : decide (200 < (t.size : Int)) = false := decide_eq_false (by omega)
      clear ht hsz g0
      go_enter Tryz.func6, Tryz.ntmps6
      go_wp2_with (first
        | (refine step_box rfl _ rfl p rfl ?_; intro b1 w1 N R; have HB := Lib.hid N.below; have HR := Lib.hid R; clear N R)
        | (refine step_load rfl _ rfl b1 rfl p HR.out ?_)
        | (go_at_call 15; refine (canBe_any p _ HP.out (HT.out.on HB.out)).mono ?_; rintro e w' ⟨rfl, hb9⟩; rw [HWb.out]; have HR := Lib.hid (HR.out.later hb9); have HB := Lib.hid (below_on HB.out hb9); clear hb9)
        | (go_at_call 16; refine (written_any p _ HP.out HWb.out (HT.out.on HB.out) (HC.out.on HB.out) (HPw.out.on HB.out)).mono ?_; rintro e w' ⟨rfl, hb9⟩; rw [HTt.out]; have HB := Lib.hid (below_on HB.out hb9); clear hb9))
      go_ret
      exact ⟨by rw [HE.out]; rfl, HB.out⟩
    · have HE := Lib.hid (show fenL p = [] by unfold fenL; rw [decide_eq_false g0, Bool.and_false]; rfl)
      have g1 : decide (200 < (t.size : Int)) = true := decide_eq_true (by omega)
      clear ht hsz g0
      go_enter Tryz.func6, Tryz.ntmps6
      go_wp2_with (first
        | (refine step_box rfl _ rfl p rfl ?_; intro b1 w1 N R; have HB := Lib.hid N.below; have HR := Lib.hid R; clear N R)
        | (refine step_load rfl _ rfl b1 rfl p HR.out ?_)
        | (go_at_call 15; refine (canBe_any p _ HP.out (HT.out.on HB.out)).mono ?_; rintro e w' ⟨rfl, hb9⟩; rw [HWb.out]; have HR := Lib.hid (HR.out.later hb9); have HB := Lib.hid (below_on HB.out hb9); clear hb9)
        | (go_at_call 16; refine (written_any p _ HP.out HWb.out (HT.out.on HB.out) (HC.out.on HB.out) (HPw.out.on HB.out)).mono ?_; rintro e w' ⟨rfl, hb9⟩; rw [HTt.out]; have HB := Lib.hid (below_on HB.out hb9); clear hb9))
      go_ret
      exact ⟨by rw [HE.out]; rfl, HB.out⟩
end Go.Proofs.YtjbfjohgfbipgaaGreatDoor
/-
  The program's reader of texts (layer 10): its block, what a call of it may change, what throws.
-/
namespace Go.Proofs.YtjbfjohgfbipgaaGreatDoor
open Go.RowKit
set_option linter.unusedVariables false
set_option linter.unusedSimpArgs false

/-- Only block b (and new ones) has changed. -/
structure Kb (b : Nat) (w w' : World) : Prop where
  base : Below 0 w w'
  same : ∀ k, k < w.heap.size → k ≠ b → w'.heap[k]? = w.heap[k]?
theorem Kb.size {b : Nat} {w w' : World} (h : Kb b w w') : w.heap.size ≤ w'.heap.size := h.base.size
theorem Kb.refl (b : Nat) (w : World) : Kb b w w := ⟨Below.refl _ _, fun _ _ _ => rfl⟩
theorem Kb.trans {b : Nat} {w w' w'' : World} (h : Kb b w w') (k : Kb b w' w'') : Kb b w w'' := ⟨h.base.trans k.base, fun i hi hx => (k.same i (Nat.lt_of_lt_of_le hi h.size) hx).trans (h.same i hi hx)⟩
theorem Kb.of_call (b : Nat) {w w' : World} (h : Below w.heap.size w w') : Kb b w w' := ⟨h.mono (Nat.zero_le _), fun k hk _ => h.block k hk⟩
theorem Kb.of_upd {b : Nat} {w w' : World} (h : Upd b w w') : Kb b w w' := ⟨h.below (Nat.zero_le _), fun k _ hk => h.block k hk⟩
theorem Kb.below {b B : Nat} {w w' : World} (h : Kb b w w') (hb : B ≤ b) (hB : B ≤ w.heap.size) : Below B w w' :=
  ⟨h.base.os, h.base.tape, h.base.output, h.size, fun k hk => h.same k (by omega) (by omega)⟩
theorem Kb.blk {b k : Nat} {T : TypeId} {cs : Array Value} {w w' : World} (h : Kb b w w') (hc : Blk w k T cs) (hk : k ≠ b) : Blk w' k T cs := (h.same k hc.lt hk).trans hc
/-- The reader's block: a position, and what of the text is still to be read. -/
def rdA (p : Nat → Int) (s : List UInt8) : Array Value := (posA p).push (.string (bz s))
def RowR (w : World) (b : Nat) (p : Nat → Int) (s : List UInt8) : Prop := Blk w b 71 (rdA p s)
theorem rdA_size (p : Nat → Int) (s : List UInt8) : (rdA p s).size = 89 := by simp [rdA, posA_size]
theorem rdA_get (p : Nat → Int) (s : List UInt8) {i : Nat} (h : i < 88) : (rdA p s)[i]? = some (.int (kAt i) (p i)) := by
  unfold rdA; rw [Array.getElem?_push_lt (by rw [posA_size]; exact h)]
  rw [← Array.getElem?_eq_getElem, posA_get p i h]
theorem rdA_rest (p : Nat → Int) (s : List UInt8) : (rdA p s)[88]? = some (.string (bz s)) := by
  unfold rdA
  have : (posA p).size = 88 := posA_size p
  rw [← this]; simp
theorem rdA_set (p : Nat → Int) (s : List UInt8) (i : Nat) (v : Int) (h : i < 88) : (rdA p s).setIfInBounds i (.int (kAt i) v) = rdA (upd p i v) s := by
  apply Array.ext_getElem?
  intro j
  by_cases hj : j < 88
  · rw [rdA_get _ _ hj]
    by_cases e : i = j
    · subst e
      rw [Array.getElem?_setIfInBounds_self_of_lt (by rw [rdA_size]; omega), upd_same]
    · rw [Array.getElem?_setIfInBounds_ne e, rdA_get _ _ hj, upd_other _ _ _ _ (Ne.symm e)]
  · rw [Array.getElem?_setIfInBounds_ne (by omega)]
    by_cases e : j = 88
    · subst e; rw [rdA_rest, rdA_rest]
    · rw [Array.getElem?_eq_none (by rw [rdA_size]; omega), Array.getElem?_eq_none (by rw [rdA_size]; omega)]
theorem rdA_rest_set (p : Nat → Int) (s s' : List UInt8) : (rdA p s).setIfInBounds 88 (.string (bz s')) = rdA p s' := by
  apply Array.ext_getElem?
  intro j
  by_cases e : j = 88
  · subst e; rw [Array.getElem?_setIfInBounds_self_of_lt (by rw [rdA_size]; omega), rdA_rest]
  · rw [Array.getElem?_setIfInBounds_ne (Ne.symm e)]
    by_cases hj : j < 88
    · rw [rdA_get _ _ hj, rdA_get _ _ hj]
    · rw [Array.getElem?_eq_none (by rw [rdA_size]; omega), Array.getElem?_eq_none (by rw [rdA_size]; omega)]
section
variable {w w' : World} {b : Nat} {p : Nat → Int} {s : List UInt8}
theorem RowR.lt (h : RowR w b p s) : b < w.heap.size := Blk.lt h
theorem RowR.later (h : RowR w b p s) (hb : Below w.heap.size w w') : RowR w' b p s := Blk.later h hb
theorem RowR.cell (h : RowR w b p s) {i : Nat} (hi : i < 88) : w.cell? ⟨b, i, none⟩ = some (.int (kAt i) (p i)) := by rw [Blk.cell h, rdA_get _ _ hi]
theorem RowR.rest (h : RowR w b p s) : w.cell? ⟨b, 88, none⟩ = some (.string (bz s)) := by rw [Blk.cell h, rdA_rest]
theorem RowR.range (h : RowR w b p s) (o n : Nat) (hn : o + n ≤ 88) : w.rangeAt b o (partL p o n) := fun j x hx => by
  have hj : j < n := by have := (List.getElem?_eq_some_iff.1 hx).1; rwa [partL_len] at this
  rw [h.cell (by omega)]
  simp only [partL, List.getElem?_map, List.getElem?_range hj, Option.map_some, Option.some.injEq] at hx
  rw [hx]
theorem Upd.rowR {p' : Nat → Int} {s' : List UInt8} (v : Value) (i : Nat) (h : RowR w b p s) (he : (rdA p s).setIfInBounds i v = rdA p' s') : RowR (w.setCell ⟨b, i, none⟩ v) b p' s' := by
  have := Blk.set h i v
  rw [he] at this
  exact this
end
section
variable {ops : Array Oper} {rest : List Oper} {op : Oper} {a : Act} {w : World} {Q : Exit → Act → World → Prop}
/-- The whole position of a reader, read at once. -/
theorem rd_load (hw : Region.wanted op (yielded ops a.tmps) = true) (x : Operand) (ho : op.op = .load 31 x) (b : Nat) (hx : a.eval x = .pointer (some ⟨b, 0, none⟩)) (p : Nat → Int) (s : List UInt8) (hr : RowR w b p s)
    (h : wpList Tryz.prog ops Q rest (a.put op.dst (.agg (posA p))) w) : wpList Tryz.prog ops Q (op :: rest) a w :=
  wpList_want hw fun _ hK => wp_load_mid 31 x ho b 0 hx (partL p 0 88) _ (hr.range 0 88 (by decide)) Tryz.underlying31 rfl (by rw [partL_len]; exact size31) (hK _ _ (by rw [partL_all, Array.toArray_toList]; exact h))
/-- A text, stored into a cell of a block. -/
theorem blk_cellS (hw : Region.wanted op (yielded ops a.tmps) = true) (ty : TypeId) (x y : Operand) (ho : op.op = .store ty x y) (b i : Nat) (hx : a.eval x = .pointer (some ⟨b, i, none⟩)) (t : ByteArray) (hy : a.eval y = .string t)
    (T : TypeId) (cs : Array Value) (hr : Blk w b T cs) (hi : i < cs.size) (hs : (Tryz.prog.info? ty).map (·.size) = some 1)
    (h : ∀ w', Upd b w w' → Blk w' b T (cs.setIfInBounds i (.string t)) → wpList Tryz.prog ops Q rest (a.put op.dst undef) w') : wpList Tryz.prog ops Q (op :: rest) a w :=
  wpList_want hw fun K' hK' => by
    have hk := hK' _ _ (h _ (Upd.setCell w b i (.string t)) (hr.set i (.string t)))
    have hrun : (storeVar ty ⟨b, i, none⟩ (.string t)).run Tryz.prog w = .ok () (w.setCell ⟨b, i, none⟩ (.string t)) :=
      run_storeVar_mid w b i ty #[.string t] (hr.there i 1 (by omega)) hs (by simp [Value.oneCell'])
    unfold Oper.wp execOp
    simp only [ho, hx, hy, Instr.storeAt, Instr.sureAddr, Sem.run_bind, Sem.run_pure, Result.andThen_ok, hrun]
    exact hk
end
/-- What a call that may throw leaves: it answers v, or throws. -/
def Throws (e : Ending) : Prop := ∃ u pv, e = .panicked [{ v := .iface u pv, recovered := false }]
theorem demand_yes (w : World) : Calls Tryz.prog 61 #[.bool true] w fun e w' => e = .returned (.tuple #[]) ∧ w' = w := by
  go_enter Tryz.func61, Tryz.ntmps61
  go_wp2
  go_end0
  exact ⟨rfl, rfl⟩
theorem demand_no (w : World) : Calls Tryz.prog 61 #[.bool false] w fun e w' => Throws e ∧ w' = w := by
  go_enter Tryz.func61, Tryz.ntmps61
  go_wp2
  exact ⟨rfl, ⟨_, _, rfl⟩, rfl⟩
end Go.Proofs.YtjbfjohgfbipgaaGreatDoor
/-
  Go's library as layer 10's reader calls it: texts cut and split at one byte, numbers read: contracts of the kit's shelf in our words.
-/
namespace Go.Proofs.YtjbfjohgfbipgaaGreatDoor
open Go.RowKit
set_option linter.unusedVariables false

theorem idx_eq {b x : UInt8} {l : List UInt8} (h : (b == x) = true) : Lib.index (x :: l) [b] = 0 := by
  unfold Lib.index; rw [if_pos (by simp [List.isPrefixOf, h])]
theorem idx_ne {b x : UInt8} {l : List UInt8} (h : (b == x) = false) : Lib.index (x :: l) [b] = if Lib.index l [b] == -1 then -1 else Lib.index l [b] + 1 := by
  rw [Lib.index, if_neg (by simp [List.isPrefixOf, h])]
theorem idx_nil (b : UInt8) : Lib.index [] [b] = -1 := rfl
theorem cut_one (b : UInt8) : ∀ l, (Lib.cut l [b]).1 = cutA b l ∧ (Lib.cut l [b]).2.1 = cutB b l
  | [] => by unfold Lib.cut; rw [idx_nil]; exact ⟨rfl, rfl⟩
  | x :: l => by
    obtain ⟨h1, h2⟩ := cut_one b l
    cases hx : (b == x)
    · have hge := Lib.index_ge l [b]
      have hi0 := idx_ne (l := l) hx
      rw [cutA, cutB, hx]
      by_cases h : Lib.index l [b] = -1
      · rw [h, show ((-1 : Int) == -1) = true from rfl, if_pos rfl] at hi0
        unfold Lib.cut at h1 h2 ⊢
        rw [h, if_neg (by decide)] at h1 h2
        rw [hi0, if_neg (by decide)]
        exact ⟨congrArg (x :: ·) h1, h2⟩
      · obtain ⟨i, hi⟩ : ∃ i : Nat, Lib.index l [b] = (i : Int) := ⟨(Lib.index l [b]).toNat, by omega⟩
        rw [hi, show (((i : Nat) : Int) == -1) = false by rw [beq_eq_false_iff_ne]; omega, if_neg (by simp)] at hi0
        unfold Lib.cut at h1 h2 ⊢
        rw [hi, if_pos (by omega), Int.toNat_natCast] at h1 h2
        rw [hi0, if_pos (by omega), show ((i : Int) + 1).toNat = i + 1 by omega]
        exact ⟨congrArg (x :: ·) h1, h2⟩
    · unfold Lib.cut
      rw [cutA, cutB, hx, idx_eq hx]
      exact ⟨rfl, rfl⟩
/-- The texts between such bytes. -/
def consH (x : UInt8) : List (List UInt8) → List (List UInt8)
  | [] => [[x]]
  | h :: t => (x :: h) :: t
def splitL (b : UInt8) : List UInt8 → List (List UInt8)
  | [] => [[]]
  | x :: l => bif b == x then [] :: splitL b l else consH x (splitL b l)
theorem split_one (b : UInt8) : ∀ l, Lib.split l [b] = splitL b l
  | [] => by unfold Lib.split; rw [Lib.count_miss (idx_nil b)]; rfl
  | x :: l => by
    have ih := split_one b l
    unfold Lib.split at ih ⊢
    rw [splitL]
    cases hx : (b == x)
    · have hge := Lib.index_ge l [b]
      have hi0 := idx_ne (l := l) hx
      by_cases h : Lib.index l [b] = -1
      · rw [h] at hi0
        rw [Lib.count_miss h] at ih
        rw [Lib.count_miss hi0]
        show [x :: l] = consH x (splitL b l)
        rw [← ih]; rfl
      · obtain ⟨i, hi⟩ : ∃ i : Nat, Lib.index l [b] = (i : Int) := ⟨(Lib.index l [b]).toNat, by omega⟩
        rw [hi, show (((i : Nat) : Int) == -1) = false by rw [beq_eq_false_iff_ne]; omega, if_neg (by simp)] at hi0
        have hi1 : Lib.index (x :: l) [b] = ((i + 1 : Nat) : Int) := by rw [hi0]; rfl
        rw [Lib.count_hit (by simp) hi, Nat.add_comm] at ih
        rw [Lib.count_hit (by simp) hi1, Nat.add_comm]
        rw [Lib.splitK, hi, show (((i : Nat) : Int) == -1) = false by rw [beq_eq_false_iff_ne]; omega, if_neg (by simp), Int.toNat_natCast] at ih
        rw [Lib.splitK, hi1, show (((i + 1 : Nat) : Int) == -1) = false by rw [beq_eq_false_iff_ne]; omega, if_neg (by simp), Int.toNat_natCast]
        show _ = consH x (splitL b l)
        rw [← ih]
        rfl
    · have hi0 := idx_eq (l := l) hx
      have hi1 : Lib.index (x :: l) [b] = ((0 : Nat) : Int) := hi0
      rw [Lib.count_hit (by simp) hi1, Nat.add_comm, Lib.splitK, hi1, show (((0 : Nat) : Int) == -1) = false from rfl, if_neg (by simp)]
      show [] :: Lib.splitK [b] 0 (Lib.count l [b]) l = [] :: splitL b l
      rw [ih]
theorem splitL_ne (b : UInt8) : ∀ l, splitL b l ≠ []
  | [] => by simp [splitL]
  | x :: l => by
    rw [splitL]
    cases (b == x)
    · show consH x (splitL b l) ≠ []
      cases splitL b l <;> simp [consH]
    · simp
theorem consH_len {x : UInt8} {ls : List (List UInt8)} (h : ls ≠ []) : (consH x ls).length = ls.length := by
  cases ls with
  | nil => exact absurd rfl h
  | cons a t => rfl
theorem split_len (b : UInt8) : ∀ l, Lib.count l [b] + 1 = (splitL b l).length
  | [] => by rw [Lib.count_miss (idx_nil b)]; rfl
  | x :: l => by
    have ih := split_len b l
    rw [splitL]
    cases hx : (b == x)
    · have hge := Lib.index_ge l [b]
      have hi0 := idx_ne (l := l) hx
      show _ = (consH x (splitL b l)).length
      rw [consH_len (splitL_ne b l), ← ih]
      by_cases h : Lib.index l [b] = -1
      · rw [h, show ((-1 : Int) == -1) = true from rfl, if_pos rfl] at hi0
        rw [Lib.count_miss h, Lib.count_miss hi0]
      · obtain ⟨i, hi⟩ : ∃ i : Nat, Lib.index l [b] = (i : Int) := ⟨(Lib.index l [b]).toNat, by omega⟩
        rw [hi, show (((i : Nat) : Int) == -1) = false by rw [beq_eq_false_iff_ne]; omega, if_neg (by simp)] at hi0
        have hi1 : Lib.index (x :: l) [b] = ((i + 1 : Nat) : Int) := by rw [hi0]; rfl
        rw [Lib.count_hit (by simp) hi, Lib.count_hit (by simp) hi1]
        rfl
    · have hi1 : Lib.index (x :: l) [b] = ((0 : Nat) : Int) := idx_eq hx
      rw [Lib.count_hit (by simp) hi1]
      show 1 + Lib.count l [b] + 1 = (splitL b l).length + 1
      omega
/-- The library's own variable of the longest needle holds some number. -/
def TabMx (w : World) : Prop := ∃ m, w.cell? ⟨5, 0, none⟩ = some (.int .i64 m)
theorem TabMx.on {w w' : World} (h : TabMx w) (hb : Below w.heap.size w w') : TabMx w' := by
  obtain ⟨m, h⟩ := h
  have hlt : 5 < w.heap.size := World.block_lt_of_cell? w _ h
  exact ⟨m, by rw [← h]; exact hb.cell (p := ⟨5, 0, none⟩) hlt⟩
theorem cut_any (b : UInt8) (l : List UInt8) (w : World) (hl : l.length ≤ 10000) (hT : TabMx w) : Calls Tryz.prog 81 #[.string (bz l), .string (bz [b])] w fun e w' => (∃ f, e = .returned (.tuple #[.string (bz (cutA b l)), .string (bz (cutB b l)), .bool f])) ∧ ∃ n, w' = w.drewN n := by
  obtain ⟨m, hm⟩ := hT
  refine (Any.strings_Cut Tryz.lays145 (bz l) (bz [b]) m w (by rw [bz_size]; omega) hm).mono ?_
  rintro e w' ⟨rfl, n, rfl⟩
  refine ⟨⟨(Lib.cut (bz l).data.toList (bz [b]).data.toList).2.2, ?_⟩, n, rfl⟩
  rw [bz_data, bz_data, (cut_one b l).1, (cut_one b l).2]
  rfl
theorem split_any (b : UInt8) (l : List UInt8) (w : World) (hl : l.length ≤ 10000) (hT : TabMx w) : Calls Tryz.prog 83 #[.string (bz l), .string (bz [b])] w fun e w' => e = .returned (.slice (some ⟨w.heap.size, 0, none⟩) (splitL b l).length (splitL b l).length) ∧ StrsAt w' w.heap.size (splitL b l) ∧ Below w.heap.size w w' := by
  obtain ⟨m, hm⟩ := hT
  refine (Any.strings_Split Tryz.lays146 (by kernel_rfl) (bz l) (bz [b]) m w (by rw [bz_size]; omega) hm (by rw [bz_size]; exact Nat.le_refl 1)).mono ?_
  rintro e w' ⟨rfl, rfl⟩
  have hd := Lib.splitB_data (bz [b]) 0 (Lib.countB (bz l) (bz [b])) (bz l)
  have hc : Lib.countB (bz l) (bz [b]) = Lib.count l [b] := by
    show Lib.count (bz l).data.toList (bz [b]).data.toList = _
    rw [bz_data, bz_data]
  rw [bz_data, bz_data, hc] at hd
  have hs : Lib.splitB (bz [b]) 0 (Lib.count l [b]) (bz l) = (splitL b l).map bz := by
    have : ((splitL b l).map bz).map (·.data.toList) = splitL b l := by
      rw [List.map_map]
      conv => rhs; rw [← List.map_id (splitL b l)]
      apply List.map_congr_left
      intro x _
      exact bz_data x
    have e : (Lib.splitB (bz [b]) 0 (Lib.count l [b]) (bz l)).map (·.data.toList) = ((splitL b l).map bz).map (·.data.toList) := by
      rw [this, hd]; exact split_one b l
    have back : ∀ ts : List ByteArray, (ts.map (·.data.toList)).map bz = ts := fun ts => by
      rw [List.map_map]
      conv => rhs; rw [← List.map_id ts]
      apply List.map_congr_left
      intro x _
      exact bz_of x
    rw [← back (Lib.splitB _ _ _ _), e, back]
  rw [hc, hs, split_len b l]
  refine ⟨rfl, fun j x hx => ?_, (Below.refl _ _).alloc (Nat.le_refl _) _⟩
  rw [cell_of_row _ _ j _ _ _ (heap_alloc_new w _)]
  simp [hx]
end Go.Proofs.YtjbfjohgfbipgaaGreatDoor
/-
  Contracts of the reader's must, number, next (layer 10).
-/
namespace Go.Proofs.YtjbfjohgfbipgaaGreatDoor
open Go.RowKit
set_option linter.unusedVariables false
set_option linter.unusedSimpArgs false

theorem mustI_yes (v : Int) (w : World) : Calls Tryz.prog 88 #[.int .i64 v, .bool true] w (I64E v w) := by
  go_enter Tryz.func88, Tryz.ntmps88
  go_wp2_with (go_at_call 61; refine (demand_yes _).mono ?_; rintro e w' ⟨rfl, rfl⟩)
  go_ret
  exact ⟨rfl, rfl⟩
theorem mustI_no (v : Int) (w : World) : Calls Tryz.prog 88 #[.int .i64 v, .bool false] w fun e w' => Throws e ∧ w' = w := by
  go_enter Tryz.func88, Tryz.ntmps88
  go_wp2_with (go_at_call 61; refine (demand_no _).mono ?_; rintro e w' ⟨⟨u, pv, rfl⟩, rfl⟩)
  exact ⟨rfl, ⟨_, _, rfl⟩, rfl⟩
theorem mustU_yes (v : Int) (w : World) : Calls Tryz.prog 112 #[.int .u8 v, .bool true] w (fun e w' => e = .returned (.int .u8 v) ∧ w = w') := by
  go_enter Tryz.func112, Tryz.ntmps112
  go_wp2_with (go_at_call 61; refine (demand_yes _).mono ?_; rintro e w' ⟨rfl, rfl⟩)
  go_ret
  exact ⟨rfl, rfl⟩
theorem mustU_no (v : Int) (w : World) : Calls Tryz.prog 112 #[.int .u8 v, .bool false] w fun e w' => Throws e ∧ w' = w := by
  go_enter Tryz.func112, Tryz.ntmps112
  go_wp2_with (go_at_call 61; refine (demand_no _).mono ?_; rintro e w' ⟨⟨u, pv, rfl⟩, rfl⟩)
  exact ⟨rfl, ⟨_, _, rfl⟩, rfl⟩

/-! Numbers. -/
def atN (l : List UInt8) : Option Int := match Lib.atoiAll l with | .ok v => some v | _ => none
/-- The library's own errors are some. -/
def ErrAt (g : Nat) (w : World) : Prop := ∃ ev, w.cell? ⟨g, 0, none⟩ = some ev ∧ (ev = .nilIface ∨ ∃ te pe, ev = .iface te pe)
def TabErr (w : World) : Prop := ErrAt 7 w ∧ ErrAt 8 w
theorem ErrAt.on {g : Nat} {w w' : World} (h : ErrAt g w) (hb : Below w.heap.size w w') : ErrAt g w' := by
  obtain ⟨ev, hc, he⟩ := h
  have hlt : g < w.heap.size := World.block_lt_of_cell? w _ hc
  exact ⟨ev, by rw [← hc]; exact hb.cell (p := ⟨g, 0, none⟩) hlt, he⟩
theorem TabErr.on {w w' : World} (h : TabErr w) (hb : Below w.heap.size w w') : TabErr w' := ⟨h.1.on hb, h.2.on hb⟩
def NumT (l : List UInt8) (w : World) (e : Ending) (w' : World) : Prop := (match atN l with | some v => e = .returned (.int .i64 v) | none => Throws e) ∧ Below w.heap.size w w'
theorem number_any (l : List UInt8) (w : World) (hl : l.length ≤ 10000) (hT : TabErr w) : Calls Tryz.prog 90 #[.string (bz l)] w (NumT l w) := by
  have hsz : (bz l).size ≤ 10000 := by rw [bz_size]; exact hl
  unfold NumT atN
  rcases h : Lib.atoiAll l with v | _ | _
  · have h' : Lib.atoiAll (bz l).data.toList = .ok v := by rw [bz_data]; exact h
    have HA := Lib.hid (Any.strconv_Atoi_ok Tryz.laysC172 (bz l) (by omega) v h' w)
    clear h h' hsz hT
    go_enter Tryz.func90, Tryz.ntmps90
    go_wp2_with (first
      | (go_at_call 116; refine HA.out.mono ?_; rintro e w' ⟨rfl, hw⟩; have HB := Lib.hid (show Below w.heap.size w w' by rcases hw with rfl | ⟨t, rfl⟩; exact Below.refl _ _; exact Lib.bytesWorld_below _ _ _); clear hw)
      | (go_at_call 88; refine (mustI_yes _ _).mono ?_; rintro e w2 ⟨rfl, rfl⟩))
    go_ret
    exact ⟨rfl, HB.out⟩
  · have h' := (show Lib.atoiAll (bz l).data.toList = Lib.atoiAll l by rw [bz_data]).trans h
    obtain ⟨ev, hc, hev⟩ := hT.1
    have HA := Lib.hid (Any.strconv_Atoi_syntax Tryz.laysC172 (bz l) (by omega) h' ev w hc hev)
    clear h h' hsz hT hc hev
    go_enter Tryz.func90, Tryz.ntmps90
    go_wp2_with (first
      | (go_at_call 116; refine HA.out.mono ?_; rintro e w' ⟨N, rfl, _, _, hw⟩; have HB := Lib.hid hw; clear hw)
      | (go_at_call 88; refine (mustI_no _ _).mono ?_; rintro e w2 ⟨⟨u, pv, rfl⟩, rfl⟩))
    exact ⟨rfl, ⟨_, _, rfl⟩, HB.out⟩
  · have h' : Lib.atoiAll (bz l).data.toList = .range := by rw [bz_data]; exact h
    obtain ⟨ev, hc, hev⟩ := hT.2
    have HA := Lib.hid (Any.strconv_Atoi_range Tryz.laysC172 (bz l) (by omega) h' ev w hc hev)
    clear h h' hsz hT hc hev
    go_enter Tryz.func90, Tryz.ntmps90
    go_wp2_with (first
      | (go_at_call 116; refine HA.out.mono ?_; rintro e w' ⟨N, rfl, _, _, hw⟩; have HB := Lib.hid hw; clear hw)
      | (go_at_call 88; refine (mustI_no _ _).mono ?_; rintro e w2 ⟨⟨u, pv, rfl⟩, rfl⟩))
    exact ⟨rfl, ⟨_, _, rfl⟩, HB.out⟩

/-- What is cut off ahead; what is left. -/
def fdF (s : List UInt8) : List UInt8 := cutA 32 s
def fdR (s : List UInt8) : List UInt8 := cutB 32 s
set_option maxRecDepth 100000 in
set_option maxHeartbeats 1000000 in
theorem rd_next (b : Nat) (p : Nat → Int) (s : List UInt8) (w : World) (hr : RowR w b p s) (hs : s.length ≤ 10000) (hT : TabMx w) : Calls Tryz.prog 82 #[.pointer (some ⟨b, 0, none⟩)] w fun e w' => e = .returned (.string (bz (fdF s))) ∧ RowR w' b p (fdR s) ∧ Kb b w w' := by
  have HR := Lib.hid hr
  have HS := Lib.hid hs
  have HT := Lib.hid hT
  have k88 := hr.rest
  have hfz : w.frozen? ⟨b, 88, none⟩ = false := Blk.frozen hr 88
  clear hr hs hT
  go_enter Tryz.func82, Tryz.ntmps82
  go_wp2_with (first
    | (go_at_call 81; refine (cut_any 32 s _ HS.out HT.out).mono ?_; rintro e w' ⟨⟨f, rfl⟩, n, rfl⟩))
  go_ret
  have hb := below_drewN (Below.refl w.heap.size w) n
  exact ⟨rfl, Upd.rowR _ 88 (HR.out.later hb) (rdA_rest_set p s _), (Kb.of_call b hb).trans (Kb.of_upd (Upd.setCell _ _ _ _))⟩
end Go.Proofs.YtjbfjohgfbipgaaGreatDoor
/-
  What layer 10's rows say of the library's errors (listed sentinels), as our walks ask it.
-/
namespace Go.Proofs.YtjbfjohgfbipgaaGreatDoor
open Go.RowKit
set_option linter.unusedVariables false

def TabErrR (w : World) : Prop := ErrAt 8 w
def TabErrS (w : World) : Prop := ErrAt 7 w
theorem err_star : "*" ++ "errors.errorString" = "*errors.errorString" := by decide
set_option maxRecDepth 100000 in
theorem err_row (u : TypeId) (h : Tryz.prog.typeName? 3 u = some "*errors.errorString") : u = 189 :=
  typeName_ptr_named (nm := "errors.errorString") (by rw [err_star]; kernel_rfl) (by kernel_rfl) (by decide) u (by rw [err_star]; exact h)
set_option maxRecDepth 100000 in
theorem err_at {W : World} {nm : String} {text : List UInt8} {rest : List (String × DataW Unit)} {g : Nat} (h : laidMet Tryz.prog ((nm, .iface "*errors.errorString" (.ptr (.agg [.lit (.string text)]))) :: rest) W) (hn : Tryz.prog.globalNamed nm = some g) (ht : (Tryz.prog.globals[g]?).map (·.type) = some 84) : ErrAt g W := by
  obtain ⟨a, s, hv, _⟩ := laid_sentinel h hn ht Tryz.underlying84 err_row Tryz.underlying189 Tryz.underlying191 rfl rfl Tryz.underlying9 (by kernel_rfl) (by kernel_rfl)
  have hc := World.var?_cell hn hv 0
  exact ⟨_, by simpa using hc, Or.inr ⟨_, _, rfl⟩⟩
theorem tab_strconv_ErrRange {W : World} {nm : String} {rest : List (String × DataW Unit)} (h : laidMet Tryz.prog ((nm, Rows.laid_strconv_ErrRange) :: rest) W) (hn : Tryz.prog.globalNamed nm = some 8) : TabErrR W :=
  err_at h hn (by kernel_rfl)
theorem tab_strconv_ErrSyntax {W : World} {nm : String} {rest : List (String × DataW Unit)} (h : laidMet Tryz.prog ((nm, Rows.laid_strconv_ErrSyntax) :: rest) W) (hn : Tryz.prog.globalNamed nm = some 7) : TabErrS W :=
  err_at h hn (by kernel_rfl)
end Go.Proofs.YtjbfjohgfbipgaaGreatDoor
/-
  Contracts of the reader's turn, passing, half, full (layer 10).
-/
namespace Go.Proofs.YtjbfjohgfbipgaaGreatDoor
open Go.RowKit
set_option linter.unusedVariables false
set_option linter.unusedSimpArgs false

/-- What a field's reading leaves: the position and the rest, or it throws. -/
def RdP (b : Nat) (r : Option ((Nat → Int) × List UInt8)) (w : World) (e : Ending) (w' : World) : Prop := match r with
  | some st => e = .returned (.tuple #[]) ∧ RowR w' b st.1 st.2 ∧ Kb b w w'
  | none => Throws e ∧ Kb b w w'
theorem RowR.put {w : World} {b i : Nat} {p : Nat → Int} {s : List UInt8} (h : RowR w b p s) (hi : i < 88) (v : Int) {K : IntKind} (hk : kAt i = K) : RowR (w.setCell ⟨b, i, none⟩ (.int K v)) b (upd p i v) s ∧ Kb b w (w.setCell ⟨b, i, none⟩ (.int K v)) := by
  subst hk
  exact ⟨Upd.rowR _ i h (rdA_set p s i v hi), Kb.of_upd (Upd.setCell _ _ _ _)⟩
def rdTurn (p : Nat → Int) (s : List UInt8) : Option ((Nat → Int) × List UInt8) := bif fdF s == [119] then some (upd p 78 0, fdR s) else bif fdF s == [98] then some (upd p 78 1, fdR s) else none
set_option maxRecDepth 100000 in
set_option maxHeartbeats 1000000 in
theorem rd_turn (b : Nat) (p : Nat → Int) (s : List UInt8) (w : World) (hr : RowR w b p s) (hs : s.length ≤ 10000) (hT : TabMx w) : Calls Tryz.prog 55 #[.pointer (some ⟨b, 0, none⟩)] w (RdP b (rdTurn p s) w) := by
  have HR := Lib.hid hr
  have HS := Lib.hid hs
  have HT := Lib.hid hT
  clear hr hs hT
  obtain ⟨t, ht⟩ : ∃ t, bz (fdF s) = t := ⟨_, rfl⟩
  have HTt := Lib.hid ht
  have hx : ∀ l, (t.toList == l) = (fdF s == l) := fun l => by rw [← ht, bz_toList]
  clear ht
  cases h1 : (fdF s == [119])
  · cases h2 : (fdF s == [98])
    · have g1 : (t.toList == [119]) = false := by rw [hx, h1]
      have g2 : (t.toList == [98]) = false := by rw [hx, h2]
      have HE := Lib.hid (show rdTurn p s = none by unfold rdTurn; rw [h1, h2]; rfl)
      clear hx h1 h2
      go_enter Tryz.func55, Tryz.ntmps55
      go_wp2_with (go_at_call 82; refine (rd_next b p s _ HR.out HS.out HT.out).mono ?_; rintro e w1 ⟨rfl, h1, h2⟩; rw [HTt.out]; have HR1 := Lib.hid h1; have HK := Lib.hid h2; clear h1 h2)
      rw [HE.out]
      exact ⟨rfl, ⟨_, _, rfl⟩, HK.out⟩
    · have g1 : (t.toList == [119]) = false := by rw [hx, h1]
      have g2 : (t.toList == [98]) = true := by rw [hx, h2]
      have HE := Lib.hid (show rdTurn p s = some (upd p 78 1, fdR s) by unfold rdTurn; rw [h1, h2]; rfl)
      clear hx h1 h2
      go_enter Tryz.func55, Tryz.ntmps55
      go_wp2_with (go_at_call 82; refine (rd_next b p s _ HR.out HS.out HT.out).mono ?_; rintro e w1 ⟨rfl, h1, h2⟩; rw [HTt.out]; have HR1 := Lib.hid h1; have HK := Lib.hid h2; have k78 := h1.cell (i := 78) (by decide); have hfz := Blk.frozen h1 78; clear h1 h2)
      rw [HE.out]
      go_end0
      exact ⟨rfl, (HR1.out.put (by decide) 1 rfl).1, HK.out.trans (HR1.out.put (by decide) 1 rfl).2⟩
  · have g1 : (t.toList == [119]) = true := by rw [hx, h1]
    have HE := Lib.hid (show rdTurn p s = some (upd p 78 0, fdR s) by unfold rdTurn; rw [h1]; rfl)
    clear hx h1
    go_enter Tryz.func55, Tryz.ntmps55
    go_wp2_with (go_at_call 82; refine (rd_next b p s _ HR.out HS.out HT.out).mono ?_; rintro e w1 ⟨rfl, h1, h2⟩; rw [HTt.out]; have HR1 := Lib.hid h1; have HK := Lib.hid h2; have k78 := h1.cell (i := 78) (by decide); have hfz := Blk.frozen h1 78; clear h1 h2)
    rw [HE.out]
    go_end0
    exact ⟨rfl, (HR1.out.put (by decide) 0 rfl).1, HK.out.trans (HR1.out.put (by decide) 0 rfl).2⟩
def rdPass (p : Nat → Int) (s : List UInt8) : Option ((Nat → Int) × List UInt8) := bif fdF s == [45] then some (p, fdR s) else bif parseOk (bz (fdF s)) then some (upd p 83 (parseZ (bz (fdF s))), fdR s) else none
theorem ofZ_rng (f r : Int) : 0 ≤ ofZ f r ∧ ofZ f r ≤ 63 := by
  cases h : ofOk f r
  · rw [ofZ_no h]; decide
  · rw [ofZ_yes h]; rw [ofOk_true] at h; omega
theorem parseZ_rng (t : ByteArray) : 0 ≤ parseZ t ∧ parseZ t ≤ 63 := by
  unfold parseZ
  cases decide (t.size = 2)
  · exact ⟨Int.le_refl 0, show (0 : Int) ≤ 63 by decide⟩
  · exact ofZ_rng _ _
set_option maxRecDepth 100000 in
set_option maxHeartbeats 1000000 in
theorem rd_pass (b : Nat) (p : Nat → Int) (s : List UInt8) (w : World) (hr : RowR w b p s) (hs : s.length ≤ 10000) (hT : TabMx w) : Calls Tryz.prog 57 #[.pointer (some ⟨b, 0, none⟩)] w (RdP b (rdPass p s) w) := by
  have HR := Lib.hid hr
  have HS := Lib.hid hs
  have HT := Lib.hid hT
  clear hr hs hT
  obtain ⟨t, ht⟩ : ∃ t, bz (fdF s) = t := ⟨_, rfl⟩
  have HTt := Lib.hid ht
  have hx : ∀ l, (t.toList == l) = (fdF s == l) := fun l => by rw [← ht, bz_toList]
  have hpe : rdPass p s = bif fdF s == [45] then some (p, fdR s) else bif parseOk t then some (upd p 83 (parseZ t), fdR s) else none := by unfold rdPass; rw [ht]
  clear ht
  cases h1 : (fdF s == [45])
  · have g1 : (t.toList == [45]) = false := by rw [hx, h1]
    obtain ⟨z, hz⟩ : ∃ z, parseZ t = z := ⟨_, rfl⟩
    have hzr : 0 ≤ z ∧ z ≤ 63 := by rw [← hz]; exact parseZ_rng t
    have HZ := Lib.hid hz
    cases h2 : parseOk t
    · have HE := Lib.hid (show rdPass p s = none by rw [hpe, h1, h2]; rfl)
      have HO := Lib.hid h2
      clear hx h1 h2 hpe hz hzr
      go_enter Tryz.func57, Tryz.ntmps57
      go_wp2_with (first
        | (go_at_call 82; refine (rd_next b p s _ HR.out HS.out HT.out).mono ?_; rintro e w1 ⟨rfl, h1, h2⟩; rw [HTt.out]; have HR1 := Lib.hid h1; have HK := Lib.hid h2; clear h1 h2)
        | (go_at_call 89; refine (parse_any t _).mono ?_; rintro e w2 ⟨rfl, hb9⟩; rw [HO.out, HZ.out]; have HR1 := Lib.hid (HR1.out.later hb9); have HK := Lib.hid (HK.out.trans (Kb.of_call b hb9)); clear hb9)
        | (go_at_call 88; refine (mustI_no _ _).mono ?_; rintro e w3 ⟨⟨u, pv, rfl⟩, rfl⟩))
      rw [HE.out]
      exact ⟨rfl, ⟨_, _, rfl⟩, HK.out⟩
    · have HE := Lib.hid (show rdPass p s = some (upd p 83 z, fdR s) by rw [hpe, h1, h2, hz]; rfl)
      have HO := Lib.hid h2
      obtain ⟨z0, z1⟩ := hzr
      clear hx h1 h2 hpe hz
      go_enter Tryz.func57, Tryz.ntmps57
      go_wp2_with (first
        | (go_at_call 82; refine (rd_next b p s _ HR.out HS.out HT.out).mono ?_; rintro e w1 ⟨rfl, h1, h2⟩; rw [HTt.out]; have HR1 := Lib.hid h1; have HK := Lib.hid h2; clear h1 h2)
        | (go_at_call 89; refine (parse_any t _).mono ?_; rintro e w2 ⟨rfl, hb9⟩; rw [HO.out, HZ.out]; have HR1 := Lib.hid (HR1.out.later hb9); have HK := Lib.hid (HK.out.trans (Kb.of_call b hb9)); clear hb9; have k83 := HR1.out.cell (i := 83) (by decide); have hfz := Blk.frozen HR1.out 83)
        | (go_at_call 88; refine (mustI_yes _ _).mono ?_; rintro e w3 ⟨rfl, rfl⟩))
      rw [HE.out]
      go_end0
      exact ⟨rfl, (HR1.out.put (by decide) z rfl).1, HK.out.trans (HR1.out.put (by decide) z rfl).2⟩
  · have g1 : (t.toList == [45]) = true := by rw [hx, h1]
    have HE := Lib.hid (show rdPass p s = some (p, fdR s) by rw [hpe, h1]; rfl)
    clear hx h1 hpe
    go_enter Tryz.func57, Tryz.ntmps57
    go_wp2_with (go_at_call 82; refine (rd_next b p s _ HR.out HS.out HT.out).mono ?_; rintro e w1 ⟨rfl, h1, h2⟩; rw [HTt.out]; have HR1 := Lib.hid h1; have HK := Lib.hid h2; clear h1 h2)
    rw [HE.out]
    go_end0
    exact ⟨rfl, HR1.out, HK.out⟩
theorem Kb.cell {b : Nat} {w w' : World} (h : Kb b w w') {a : Addr} {v : Value} (hc : w.cell? a = some v) (hb : a.block ≠ b) : w'.cell? a = some v :=
  (World.cell?_of_block (h.same a.block (World.block_lt_of_cell? w a hc) hb)).trans hc
theorem ErrAt.kept {g b : Nat} {w w' : World} (h : ErrAt g w) (k : Kb b w w') (hb : g ≠ b) : ErrAt g w' := by
  obtain ⟨ev, hc, he⟩ := h
  exact ⟨ev, k.cell hc hb, he⟩
theorem TabErr.kept {b : Nat} {w w' : World} (h : TabErr w) (k : Kb b w w') (hb : 7 ≠ b ∧ 8 ≠ b) : TabErr w' := ⟨h.1.kept k hb.1, h.2.kept k hb.2⟩
theorem TabMx.kept {b : Nat} {w w' : World} (h : TabMx w) (k : Kb b w w') (hb : 5 ≠ b) : TabMx w' := by
  obtain ⟨m, hc⟩ := h
  exact ⟨m, k.cell hc hb⟩
theorem TabCorn.kept {b : Nat} {w w' : World} (h : TabCorn w) (k : Kb b w w') (hb : 0 ≠ b) : TabCorn w' := fun d hd j x hx => k.cell (h d hd j x hx) hb
def rdNum (i : Nat) (p : Nat → Int) (s : List UInt8) : Option ((Nat → Int) × List UInt8) := match atN (fdF s) with
  | some v => some (upd p i v, fdR s)
  | none => none
set_option maxRecDepth 100000 in
set_option maxHeartbeats 1000000 in
theorem rd_half (b : Nat) (p : Nat → Int) (s : List UInt8) (w : World) (hr : RowR w b p s) (hs : s.length ≤ 10000) (hT : TabMx w) (hE : TabErr w) (hb : 7 ≠ b ∧ 8 ≠ b) : Calls Tryz.prog 59 #[.pointer (some ⟨b, 0, none⟩)] w (RdP b (rdNum 86 p s) w) := by
  have HR := Lib.hid hr
  have HS := Lib.hid hs
  have HL := Lib.hid (show (fdF s).length ≤ 10000 from Nat.le_trans (cutA_len 32 s) hs)
  have HT := Lib.hid hT
  have HE1 := Lib.hid hE
  have HBn := Lib.hid hb
  clear hr hs hT hE hb
  cases ha : atN (fdF s) with
  | none =>
    have HE := Lib.hid (show rdNum 86 p s = none by unfold rdNum; rw [ha])
    have HN := Lib.hid ha
    clear ha
    go_enter Tryz.func59, Tryz.ntmps59
    go_wp2_with (first
      | (go_at_call 82; refine (rd_next b p s _ HR.out HS.out HT.out).mono ?_; rintro e w1 ⟨rfl, h1, h2⟩; have HR1 := Lib.hid h1; have HK := Lib.hid h2; clear h1 h2)
      | (go_at_call 90; refine (number_any (fdF s) _ HL.out (HE1.out.kept HK.out HBn.out)).mono ?_; rintro e w2 ⟨hv, hb9⟩; rw [HN.out] at hv; obtain ⟨u, pv, rfl⟩ := hv; have HK := Lib.hid (HK.out.trans (Kb.of_call b hb9)); clear hb9))
    rw [HE.out]
    exact ⟨rfl, ⟨_, _, rfl⟩, HK.out⟩
  | some v =>
    have HE := Lib.hid (show rdNum 86 p s = some (upd p 86 v, fdR s) by unfold rdNum; rw [ha])
    have HN := Lib.hid ha
    clear ha
    go_enter Tryz.func59, Tryz.ntmps59
    go_wp2_with (first
      | (go_at_call 82; refine (rd_next b p s _ HR.out HS.out HT.out).mono ?_; rintro e w1 ⟨rfl, h1, h2⟩; have HR1 := Lib.hid h1; have HK := Lib.hid h2; clear h1 h2)
      | (go_at_call 90; refine (number_any (fdF s) _ HL.out (HE1.out.kept HK.out HBn.out)).mono ?_; rintro e w2 ⟨hv, hb9⟩; rw [HN.out] at hv; obtain rfl := hv; have HR1 := Lib.hid (HR1.out.later hb9); have HK := Lib.hid (HK.out.trans (Kb.of_call b hb9)); clear hb9; have ki := HR1.out.cell (i := 86) (by decide); have hfz := Blk.frozen HR1.out 86))
    rw [HE.out]
    go_end0
    exact ⟨rfl, (HR1.out.put (by decide) v rfl).1, HK.out.trans (HR1.out.put (by decide) v rfl).2⟩
set_option maxRecDepth 100000 in
set_option maxHeartbeats 1000000 in
theorem rd_full (b : Nat) (p : Nat → Int) (s : List UInt8) (w : World) (hr : RowR w b p s) (hs : s.length ≤ 10000) (hT : TabMx w) (hE : TabErr w) (hb : 7 ≠ b ∧ 8 ≠ b) : Calls Tryz.prog 60 #[.pointer (some ⟨b, 0, none⟩)] w (RdP b (rdNum 87 p s) w) := by
  have HR := Lib.hid hr
  have HS := Lib.hid hs
  have HL := Lib.hid (show (fdF s).length ≤ 10000 from Nat.le_trans (cutA_len 32 s) hs)
  have HT := Lib.hid hT
  have HE1 := Lib.hid hE
  have HBn := Lib.hid hb
  clear hr hs hT hE hb
  cases ha : atN (fdF s) with
  | none =>
    have HE := Lib.hid (show rdNum 87 p s = none by unfold rdNum; rw [ha])
    have HN := Lib.hid ha
    clear ha
    go_enter Tryz.func60, Tryz.ntmps60
    go_wp2_with (first
      | (go_at_call 82; refine (rd_next b p s _ HR.out HS.out HT.out).mono ?_; rintro e w1 ⟨rfl, h1, h2⟩; have HR1 := Lib.hid h1; have HK := Lib.hid h2; clear h1 h2)
      | (go_at_call 90; refine (number_any (fdF s) _ HL.out (HE1.out.kept HK.out HBn.out)).mono ?_; rintro e w2 ⟨hv, hb9⟩; rw [HN.out] at hv; obtain ⟨u, pv, rfl⟩ := hv; have HK := Lib.hid (HK.out.trans (Kb.of_call b hb9)); clear hb9))
    rw [HE.out]
    exact ⟨rfl, ⟨_, _, rfl⟩, HK.out⟩
  | some v =>
    have HE := Lib.hid (show rdNum 87 p s = some (upd p 87 v, fdR s) by unfold rdNum; rw [ha])
    have HN := Lib.hid ha
    clear ha
    go_enter Tryz.func60, Tryz.ntmps60
    go_wp2_with (first
      | (go_at_call 82; refine (rd_next b p s _ HR.out HS.out HT.out).mono ?_; rintro e w1 ⟨rfl, h1, h2⟩; have HR1 := Lib.hid h1; have HK := Lib.hid h2; clear h1 h2)
      | (go_at_call 90; refine (number_any (fdF s) _ HL.out (HE1.out.kept HK.out HBn.out)).mono ?_; rintro e w2 ⟨hv, hb9⟩; rw [HN.out] at hv; obtain rfl := hv; have HR1 := Lib.hid (HR1.out.later hb9); have HK := Lib.hid (HK.out.trans (Kb.of_call b hb9)); clear hb9; have ki := HR1.out.cell (i := 87) (by decide); have hfz := Blk.frozen HR1.out 87))
    rw [HE.out]
    go_end0
    exact ⟨rfl, (HR1.out.put (by decide) v rfl).1, HK.out.trans (HR1.out.put (by decide) v rfl).2⟩
end Go.Proofs.YtjbfjohgfbipgaaGreatDoor
/-
  A store into the reader's block, and a call that throws, in a region that draws its order.
-/
namespace Go.Proofs.YtjbfjohgfbipgaaGreatDoor
open Go.RowKit
set_option linter.unusedVariables false
/-- A number goes into the reader's position. -/
theorem late_put {o : Oper} {a : Act} {w : World} {K : Act → World → Prop} {Q : Exit → Act → World → Prop} (ty : TypeId) (x y : Operand) (ho : o.op = .store ty x y) (b i : Nat) (hx : a.eval x = .pointer (some ⟨b, i, none⟩)) (k : IntKind) (v : Int) (hy : a.eval y = .int k v)
    (p : Nat → Int) (s : List UInt8) (hr : RowR w b p s) (hi : i < 88) (hk : kAt i = k) (hs : (Tryz.prog.info? ty).map (·.size) = some 1)
    (h : ∀ w', RowR w' b (upd p i v) s → Kb b w w' → K (a.put o.dst undef) w') : Wp Tryz.prog o a w K Q := ⟨by
  obtain ⟨h1, h2⟩ := hr.put hi v hk
  have hk := h _ h1 h2
  have hrun : (storeVar ty ⟨b, i, none⟩ (.int k v)).run Tryz.prog w = .ok () (w.setCell ⟨b, i, none⟩ (.int k v)) :=
    run_storeVar_mid w b i ty #[.int k v] (Blk.there hr i 1 (by rw [rdA_size]; omega)) hs (by simp [Value.oneCell'])
  unfold Oper.wp execOp
  simp only [ho, hx, hy, Instr.storeAt, Instr.sureAddr, Sem.run_bind, Sem.run_pure, Result.andThen_ok, hrun]
  exact hk⟩
theorem wp_throw {P : Program} {o : Oper} {a : Act} {w : World} {K : Act → World → Prop} {Q : Exit → Act → World → Prop} (f : FuncId) (args : Array Value) (he : (execOp a.eval o).run P w = .ok (.enter f args) w)
    (h : Calls P f args w (fun e w' => ∃ chain, e = .panicked chain ∧ Q (.panic chain) a w')) : Wp P o a w K Q := ⟨by
  unfold Oper.wp
  rw [he]
  exact h.mono fun e w' ⟨v, hv, hk⟩ => by subst hv; exact hk⟩
end Go.Proofs.YtjbfjohgfbipgaaGreatDoor
/-
  What the reader makes of a rank's text, of the pockets' letters (layer 10).
-/
namespace Go.Proofs.YtjbfjohgfbipgaaGreatDoor
open Go.RowKit
set_option linter.unusedVariables false
set_option linter.unusedSimpArgs false

/-- One byte of a rank's text: which file is next, and the position. -/
def rdSt (r : Nat) (x : UInt8) (f : Int) (p : Nat → Int) : Option (Int × (Nat → Int)) :=
  bif x == 126 then (bif ofOk (f - 1) (r : Int) then some (f, upd p 65 ((putN (p 65).toNat (ofZ (f - 1) (r : Int)) : Nat) : Int)) else none)
  else bif decide (49 ≤ x.toNat) && decide (x.toNat ≤ 56) then some (f + ((x.toNat : Int) - 48), p)
  else bif ofOk f (r : Int) then (bif prsB (bz [x]) then some (f + 1, upd p (1 + (ofZ f (r : Int)).toNat) (prsZ (bz [x]))) else none) else none
def rdRk (r : Nat) : List UInt8 → Int → (Nat → Int) → Option (Int × (Nat → Int))
  | [], f, p => some (f, p)
  | x :: l, f, p => match rdSt r x f p with
    | none => none
    | some fp => rdRk r l fp.1 fp.2
/-- A rank. -/
def rdRank (r : Nat) (l : List UInt8) (p : Nat → Int) : Option (Nat → Int) := match rdRk r l 0 p with
  | none => none
  | some fp => bif fp.1 == 8 then some fp.2 else none
theorem rdRk_some {r : Nat} {x : UInt8} {l : List UInt8} {f f' : Int} {p p' : Nat → Int} (h : rdSt r x f p = some (f', p')) : rdRk r (x :: l) f p = rdRk r l f' p' := by rw [rdRk, h]
theorem rdRk_none {r : Nat} {x : UInt8} {l : List UInt8} {f : Int} {p : Nat → Int} (h : rdSt r x f p = none) : rdRk r (x :: l) f p = none := by rw [rdRk, h]
theorem drop_at {l : List UInt8} {k : Nat} (h : k < l.length) : l.drop k = l[k] :: l.drop (k + 1) := List.drop_eq_getElem_cons h
/-- One byte, cut out of a text. -/
theorem run_cut (l : List UInt8) (k : Nat) (x : UInt8) (h : l[k]? = some x) (w : World) : (Instr.slice 9 (.string (bz l)) (some (.int .i64 (k : Int))) (some (.int .i64 ((k : Int) + 1))) none).run Tryz.prog w = .ok (.string (bz [x])) w := by
  obtain ⟨hk, hx⟩ := List.getElem?_eq_some_iff.1 h
  rw [run_slice_string _ _ _ _ _ _ _ Tryz.underlying9 (by omega) (by omega) (by rw [bz_size]; omega)]
  rw [show ((k : Int) + 1).toNat = k + 1 by omega, Int.toNat_natCast]
  have : (bz l).extract k (k + 1) = bz [x] := by
    rw [← bz_of ((bz l).extract k (k + 1))]
    congr 1
    rw [ByteArray.data_extract, Array.toList_extract, bz_data]
    simp [List.extract, drop_at hk, hx]
  rw [this]
end Go.Proofs.YtjbfjohgfbipgaaGreatDoor
