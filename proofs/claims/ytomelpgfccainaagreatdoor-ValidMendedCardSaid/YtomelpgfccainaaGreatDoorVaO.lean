/-
  A list of errors in its cells; a position mended fits its kinds (layer 12).
-/
import Derived.Test.YtomelpgfccainaaGreatDoorVaN
import Derived.Test.YtomelpgfccainaaGreatDoorRuCmp
namespace Go.Proofs.YtomelpgfccainaaGreatDoor
open Go.RowKit
set_option linter.unusedVariables false
set_option linter.unusedSimpArgs false
/-- Where a list of errors lies. -/
def Ers (L : List Int) (a : Option Addr) (w : World) : Prop := ∀ (i : Nat) (x : Int), L[i]? = some x → ∃ g cur, a = some ⟨g, 0, none⟩ ∧ Blk w g 34 cur ∧ cur[i]? = some (errV x)
theorem Ers.later {L : List Int} {a : Option Addr} {w w' : World} (h : Ers L a w) (hl : Later w w') : Ers L a w' := fun i x hx => by
  obtain ⟨g, cur, e, hb, hc⟩ := h i x hx
  exact ⟨g, cur, e, hb.later hl, hc⟩
theorem Ers.cell {L : List Int} {a : Option Addr} {w : World} (h : Ers L a w) {i : Nat} {x : Int} (hx : L[i]? = some x) : ∃ g, a = some ⟨g, 0, none⟩ ∧ w.cell? ⟨g, i, none⟩ = some (.int .i64 x) := by
  obtain ⟨g, cur, e, hb, hc⟩ := h i x hx
  exact ⟨g, e, by rw [hb.cell, hc]; rfl⟩
theorem ers_of {L : List Int} {B : Nat} {v : Value} {w : World} (h : w.ownsRow B 34 1 v L.length (L.map errV)) : ∃ a cap, v = .slice a L.length cap ∧ Ers L a w := by
  rcases h.2 with ⟨rfl, hn⟩ | ⟨g, cap, cur, rfl, hB, hg, h1, h2, h3, h4⟩
  · refine ⟨none, 0, by rw [hn], fun i x hx => ?_⟩
    have := List.length_eq_zero_iff.1 hn
    rw [this] at hx; cases hx
  · refine ⟨some ⟨g, 0, none⟩, cap, rfl, fun i x hx => ⟨g, cur, rfl, hg, ?_⟩⟩
    have hi := (List.getElem?_eq_some_iff.1 hx).1
    have := congrArg (·[i]?) h4
    simp only [Nat.mul_one, List.getElem?_take_of_lt hi] at this
    have e : cur[i]? = cur.toList[i]? := by simp
    rw [e, this, List.getElem?_map, hx]; rfl
theorem nr_wf (n m : Int) (h0 : 0 ≤ m) (h1 : m ≤ 10000) : (Lit.int .i64 (nrZ n m)).wf = true := by
  have a : IntKind.i64.min = -9223372036854775808 := by decide
  have b : IntKind.i64.max = 9223372036854775807 := by decide
  unfold nrZ
  simp [Lit.wf, a, b]; omega
theorem md_wf {p : Nat → Int} (h : WfP p) : WfP (mdP p) := by
  cases ha : argB p
  · rw [md_argno ha]; exact h
  · intro i hi
    by_cases g : i < 79 ∨ i = 84 ∨ i = 85
    · rw [md_low g]; exact h i hi
    · by_cases g1 : i < 83
      · have e := md_rook ha (c := (i - 79) / 2) (s := (i - 79) % 2) (by omega) (by omega)
        unfold roA at e
        rw [show 79 + (i - 79) / 2 * 2 + (i - 79) % 2 = i by omega] at e
        rw [e]
        cases rkB p ((i - 79) / 2) ((i - 79) % 2)
        · rw [k_i8 (by omega) (by omega)]; rfl
        · exact h i hi
      · by_cases g2 : i = 83
        · subst g2; rw [md_pass ha]
          cases pasB p
          · rfl
          · exact h 83 hi
        · by_cases g3 : i = 86
          · subst g3; rw [md_half ha]; exact nr_wf _ _ (by decide) (by decide)
          · obtain rfl : i = 87 := by omega
            rw [md_full ha]; exact nr_wf _ _ (by decide) (by decide)
theorem wr_len (p : Nat → Int) : (wrL p).length ≤ 8 := by
  unfold wrL
  cases argB p
  · exact show ([2] : List Int).length ≤ 8 by decide
  · show (erL p 8).length ≤ 8
    rw [er8]
    cases okN p 0 <;> cases okN p 1 <;> cases okN p 2 <;> cases okN p 3 <;> cases okN p 4 <;> cases okN p 5 <;> cases okN p 6 <;> cases okN p 7 <;> decide
theorem wr_two {p : Nat → Int} (ha : argB p = true) : ∀ x ∈ wrL p, x ≠ 2 := by
  unfold wrL
  rw [ha]
  show ∀ x ∈ erL p 8, x ≠ 2
  rw [er8, show okN p 0 = true from ha]
  cases okN p 1 <;> cases okN p 2 <;> cases okN p 3 <;> cases okN p 4 <;> cases okN p 5 <;> cases okN p 6 <;> cases okN p 7 <;> decide
/-- A list filtered, place by place. -/
theorem fil_no {f : Int → Bool} {L : List Int} {k : Nat} {x : Int} (hx : L[k]? = some x) (h : f x = false) : ((L.take (k + 1)).filter f).length = ((L.take k).filter f).length := by
  rw [List.take_add_one, hx]; simp [h]
theorem fil_yes {f : Int → Bool} {L : List Int} {k : Nat} {x : Int} (hx : L[k]? = some x) (h : f x = true) : ((L.take (k + 1)).filter f).length = ((L.take k).filter f).length + 1 := by
  rw [List.take_add_one, hx]; simp [h]
theorem fil_at {f : Int → Bool} {L : List Int} {k : Nat} {x : Int} (hx : L[k]? = some x) (h : f x = true) : (L.filter f)[((L.take k).filter f).length]? = some x := by
  have e : L = L.take k ++ x :: L.drop (k + 1) := by
    obtain ⟨hk, rfl⟩ := List.getElem?_eq_some_iff.1 hx
    rw [← List.drop_eq_getElem_cons hk, List.take_append_drop]
  rw [show L.filter f = (L.take k).filter f ++ (x :: L.drop (k + 1)).filter f by rw [← List.filter_append, ← e]]
  rw [List.getElem?_append_right (Nat.le_refl _), Nat.sub_self, List.filter_cons_of_pos h]; rfl
section laws
variable {ops : Array Oper} {rest : List Oper} {op : Oper} {a : Act} {w : World} {Q : Exit → Act → World → Prop}
theorem row_arrQ (hw : Region.wanted op (yielded ops a.tmps) = true) (T : TypeId) (x : Operand) (ho : op.op = .load T x) (b off n : Nat) (hx : a.eval x = .pointer (some ⟨b, off, none⟩)) (q : Nat → Int) (hr : Row w b q) (hn : off + n ≤ 88) (p : Nat → Int) (he : ∀ j, j < n → q (off + j) = p (off + j))
    (d : TypeDesc) (hu : Tryz.prog.underlying T = some d) (hd : d.isRow = true) (hi : (Tryz.prog.info? T).map (·.size) = some n)
    (h : wpList Tryz.prog ops Q rest (a.put op.dst (.agg (partL p off n).toArray)) w) : wpList Tryz.prog ops Q (op :: rest) a w :=
  wpList_want hw fun _ hK => wp_load_mid T x ho b off hx (partL q off n) _ (hr.range off n hn) hu hd (by rw [partL_len]; exact hi) (hK _ _ (by
    have e : partL q off n = partL p off n := by
      unfold partL
      apply List.map_congr_left
      intro j hj
      rw [he j (List.mem_range.1 hj)]
    rw [e]; exact h))
end laws
theorem bdGuard : Tryz.prog.eqGuardType Tryz.prog.depth 22 = false := by kernel_rfl
theorem bdKey : Tryz.prog.keyTypeAt 2 22 = true := by kernel_rfl
theorem bdSize : (Tryz.prog.info? 22).map (·.size) = some 64 := by kernel_rfl
theorem bdFormed (p : Nat → Int) : (Value.agg (partL p 1 64).toArray).formed Tryz.prog 22 = true := by kernel_rfl
theorem bdLits {p : Nat → Int} (h : WfP p) : (Tryz.prog.keyLits 2 22 (partL p 1 64)).isSome = true := by
  have g : Good p 2 22 1 :=
    good_array (e := 5) (n := 64) Tryz.underlying22 (by kernel_rfl) fun j hj =>
      good_int (k := .u8) Tryz.underlying5 (by kernel_rfl) (k_u8 (.inl (by rw [show Tryz.prog.cellsOf 5 = 1 by kernel_rfl]; omega))) (h _ (by rw [show Tryz.prog.cellsOf 5 = 1 by kernel_rfl]; omega))
  unfold Good at g
  rwa [show Tryz.prog.cellsOf 22 = 64 by kernel_rfl] at g
theorem bd_eql {ops : Array Oper} {rest : List Oper} {op : Oper} {a : Act} {w : World} {Q : Exit → Act → World → Prop} (hw : Region.wanted op (yielded ops a.tmps) = true) (x y : Operand) (ho : op.op = .binOp .eql 22 x y 22) (p : Nat → Int) (hx : a.eval x = .agg (partL p 1 64).toArray) (hy : a.eval y = .agg (partL p 1 64).toArray)
    (h : WfP p) (hk : wpList Tryz.prog ops Q rest (a.put op.dst (.bool true)) w) : wpList Tryz.prog ops Q (op :: rest) a w :=
  wpList_want hw fun K hK => by
    have hk := hK _ _ hk
    obtain ⟨la, hl⟩ := Option.isSome_iff_exists.1 (bdLits h)
    obtain ⟨s, hs, hi⟩ := run_equalIn_deep 9998 2 22 bdKey w 2 2 (.agg (partL p 1 64).toArray) (.agg (partL p 1 64).toArray) la la (bdFormed p) (bdFormed p) hl hl
    have e : s = true := hi.2 rfl
    subst e
    have hr : (binOp .eql 22 (.agg (partL p 1 64).toArray) (.agg (partL p 1 64).toArray)).run Tryz.prog w = .ok (.bool true) w := by rw [run_eql_struct, hs]; rfl
    unfold Oper.wp execOp
    simp only [ho, hx, hy, Sem.run_bind, run_eqGuard_agg w _ _ _ _ _ _ bdGuard, Result.andThen_ok, hr]
    exact hk
end Go.Proofs.YtomelpgfccainaaGreatDoor
