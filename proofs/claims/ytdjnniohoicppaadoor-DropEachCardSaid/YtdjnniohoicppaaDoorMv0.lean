/-
  Moves as records, and compared.
-/
import Derived.Test.YtdjnniohoicppaaDoorRuCmp
namespace Go.Proofs.YtdjnniohoicppaaDoor
open Go.RowKit
set_option linter.unusedVariables false
set_option linter.unusedSimpArgs false

structure Mv where
  f : Int
  t : Int
  pr : Int
  dr : Int
  ca : Bool
def mvA (m : Mv) : Array Value := #[.int .i8 m.f, .int .i8 m.t, .int .u8 m.pr, .int .u8 m.dr, .bool m.ca]
def mv0 : Mv := ⟨0, 0, 0, 0, false⟩
theorem Mv.ext' {a b : Mv} (h1 : a.f = b.f) (h2 : a.t = b.t) (h3 : a.pr = b.pr) (h4 : a.dr = b.dr) (h5 : a.ca = b.ca) : a = b := by
  cases a; cases b; simp_all
structure FitV (m : Mv) : Prop where
  f : -128 ≤ m.f ∧ m.f ≤ 127
  t : -128 ≤ m.t ∧ m.t ≤ 127
  pr : 0 ≤ m.pr ∧ m.pr ≤ 255
  dr : 0 ≤ m.dr ∧ m.dr ≤ 255
theorem sizeMv : (Tryd.prog.info? 45).map (·.size) = some 5 := by kernel_rfl
theorem zeroMv : (Tryd.prog.info? 45).map (fun i => (i.zero, i.size)) = some (some (.agg (mvA mv0)), 5) := by kernel_rfl
theorem mv_one (m : Mv) : (mvA m).all (·.oneCell') = true := by simp [mvA, Value.oneCell']
theorem mvA_inj {a b : Mv} (h : mvA a = mvA b) : a = b := by
  have h' := congrArg Array.toList h
  simp only [mvA, List.cons.injEq, Value.int.injEq, Value.bool.injEq, true_and, and_true] at h'
  exact Mv.ext' h'.1 h'.2.1 h'.2.2.1 h'.2.2.2.1 h'.2.2.2.2
def mvE (a b : Mv) : Bool := (a.f == b.f) && (a.t == b.t) && (a.pr == b.pr) && (a.dr == b.dr) && (a.ca == b.ca)
theorem mvE_true {a b : Mv} : mvE a b = true ↔ a = b := by
  unfold mvE
  simp only [Bool.and_eq_true, beq_iff_eq]
  constructor
  · rintro ⟨⟨⟨⟨h1, h2⟩, h3⟩, h4⟩, h5⟩; exact Mv.ext' h1 h2 h3 h4 h5
  · rintro rfl; exact ⟨⟨⟨⟨rfl, rfl⟩, rfl⟩, rfl⟩, rfl⟩
theorem wf_i8 {x : Int} (h : -128 ≤ x ∧ x ≤ 127) : (Lit.int .i8 x).wf = true := by
  simp only [Lit.wf, Bool.and_eq_true, decide_eq_true_eq]; exact h
theorem wf_u8 {x : Int} (h : 0 ≤ x ∧ x ≤ 255) : (Lit.int .u8 x).wf = true := by
  simp only [Lit.wf, Bool.and_eq_true, decide_eq_true_eq]; exact h
theorem guardMv : Tryd.prog.eqGuardType Tryd.prog.depth 45 = false := by kernel_rfl
theorem keyMv : Tryd.prog.keyTypeAt 3 45 = true := by kernel_rfl
theorem formedMv (m : Mv) : (Value.agg (mvA m)).formed Tryd.prog 45 = true := by kernel_rfl
theorem tiledMv : Tryd.prog.tiled 3 45 = true := by kernel_rfl
theorem lit_int {d : Nat} {t : TypeId} {k : IntKind} {x : Int} (hu : Tryd.prog.underlying t = some (.int k)) (h : (Lit.int k x).wf = true) : (Tryd.prog.keyLits (d + 1) t [.int k x]).isSome = true := by
  unfold Program.keyLits
  rw [hu]
  simp [h]
theorem lit_bool {d : Nat} {t : TypeId} {x : Bool} (hu : Tryd.prog.underlying t = some .bool) : (Tryd.prog.keyLits (d + 1) t [.bool x]).isSome = true := by
  unfold Program.keyLits
  rw [hu]
  simp
theorem litsMv {m : Mv} (h : FitV m) : (Tryd.prog.keyLits 2 45 (mvA m).toList).isSome = true := by
  have c5 : Tryd.prog.cellsOf 5 = 1 := by kernel_rfl
  have c26 : Tryd.prog.cellsOf 26 = 1 := by kernel_rfl
  have c4 : Tryd.prog.cellsOf 4 = 1 := by kernel_rfl
  have cm : Tryd.prog.cellsOf 45 = 5 := by kernel_rfl
  obtain ⟨l, hl⟩ : ∃ l, (mvA m).toList = l := ⟨_, rfl⟩
  have hlen : l.length = 5 := by rw [← hl]; rfl
  rw [hl]
  unfold Program.keyLits
  rw [Tryd.underlying45]
  simp only [cm, hlen, true_and]
  rw [if_pos (by kernel_rfl), Option.isSome_map]
  refine mapM_some _ _ fun f hf => ?_
  rw [← hl]
  simp only [List.mem_cons, List.not_mem_nil, or_false] at hf
  rcases hf with rfl | rfl | rfl | rfl | rfl
  · simp only [c26]; exact lit_int Tryd.underlying26 (wf_i8 h.f)
  · simp only [c26]; exact lit_int Tryd.underlying26 (wf_i8 h.t)
  · simp only [c5]; exact lit_int Tryd.underlying5 (wf_u8 h.pr)
  · simp only [c5]; exact lit_int Tryd.underlying5 (wf_u8 h.dr)
  · simp only [c4]; exact lit_bool Tryd.underlying4
theorem run_mveq {a b : Mv} (ha : FitV a) (hb : FitV b) (w : World) : (Op.equalIn 10000 45 (.agg (mvA a)) (.agg (mvA b))).run Tryd.prog w = .ok (mvE a b) w := by
  obtain ⟨la, hl⟩ := Option.isSome_iff_exists.1 (litsMv ha)
  obtain ⟨lb, kl⟩ := Option.isSome_iff_exists.1 (litsMv hb)
  obtain ⟨r, hr, hi⟩ := run_equalIn_deep 9997 3 45 keyMv w 2 2 (.agg (mvA a)) (.agg (mvA b)) la lb (formedMv a) (formedMv b) hl kl
  have e : r = mvE a b := by
    rw [Bool.eq_iff_iff, mvE_true]
    refine hi.trans ⟨fun e => ?_, fun e => ?_⟩
    · have x := cells_of_lits 3 45 tiledMv _ _ _ hl
      have y := cells_of_lits 3 45 tiledMv _ _ _ kl
      rw [e, ← y] at x
      exact mvA_inj (Array.ext' x)
    · rw [e] at hl
      exact Option.some.inj (hl.symm.trans kl)
  rw [hr, e]
section laws
variable {ops : Array Oper} {rest : List Oper} {op : Oper} {a : Act} {w : World} {Q : Exit → Act → World → Prop}
theorem step_mv (hw : Region.wanted op (yielded ops a.tmps) = true) (x y : Operand) (ho : op.op = .binOp .eql 45 x y 45) (m n : Mv) (hx : a.eval x = .agg (mvA m)) (hy : a.eval y = .agg (mvA n)) (hm : FitV m) (hn : FitV n) (b : Bool) (hb : mvE m n = b)
    (h : wpList Tryd.prog ops Q rest (a.put op.dst (.bool b)) w) : wpList Tryd.prog ops Q (op :: rest) a w :=
  wpList_want hw fun K hK => by
    have hk := hK _ _ h
    have hr : (binOp .eql 45 (.agg (mvA m)) (.agg (mvA n))).run Tryd.prog w = .ok (.bool b) w := by
      rw [run_eql_struct, run_mveq hm hn, hb]; rfl
    unfold Oper.wp execOp
    simp only [ho, hx, hy, Sem.run_bind, run_eqGuard_agg w _ _ _ _ _ _ guardMv, Result.andThen_ok, hr]
    exact hk
theorem step_mvn (hw : Region.wanted op (yielded ops a.tmps) = true) (x y : Operand) (ho : op.op = .binOp .neq 45 x y 45) (m n : Mv) (hx : a.eval x = .agg (mvA m)) (hy : a.eval y = .agg (mvA n)) (hm : FitV m) (hn : FitV n) (b : Bool) (hb : mvE m n = b)
    (h : wpList Tryd.prog ops Q rest (a.put op.dst (.bool !b)) w) : wpList Tryd.prog ops Q (op :: rest) a w :=
  wpList_want hw fun K hK => by
    have hk := hK _ _ h
    have hr : (binOp .neq 45 (.agg (mvA m)) (.agg (mvA n))).run Tryd.prog w = .ok (.bool !b) w := by
      rw [run_neq_struct, run_mveq hm hn, hb]; rfl
    unfold Oper.wp execOp
    simp only [ho, hx, hy, Sem.run_bind, run_eqGuard_agg w _ _ _ _ _ _ guardMv, Result.andThen_ok, hr]
    exact hk
end laws
end Go.Proofs.YtdjnniohoicppaaDoor
